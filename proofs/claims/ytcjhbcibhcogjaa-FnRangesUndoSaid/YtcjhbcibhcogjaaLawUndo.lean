/- The law RangesUndo: the walk (over the program's RangesAdd by its contract, in IRg). -/
import Derived.Test.YtcjhbcibhcogjaaIAdd
import Derived.Test.YtcjhbcibhcogjaaIRem
import Derived.Test.YtcjhbcibhcogjaaRgLawR
import Derived.Test.YtcjhbcibhcogjaaSameRg
namespace Go.Proofs.Ytcjhbcibhcogjaa
open Go.RowKit
set_option linter.unusedVariables false
set_option linter.unusedSimpArgs false

set_option maxRecDepth 100000 in
set_option maxHeartbeats 1000000 in
theorem undo_walk (a : Option Addr) (len cap : Nat) (zs : List Int) (w : World) (h : IsRow .u8 w a len cap zs) :
    Calls Try.prog 6 #[.slice a len cap] w fun e w' => e = .returned (.bool true) ∧ Below w.heap.size w w' := by
  have H := Lib.hid h
  clear h
  by_cases hl : 1048576 < len
  · go_enter Try.func6, Try.ntmps6
    go_wp2
    go_ret
    exact ⟨rfl, Below.refl _ _⟩
  go_enter Try.func6, Try.ntmps6
  go_wp2_with fail
  refine (drawAdd_any a len cap zs w H.out).mono ?_
  rintro e w1 ⟨v, l, lo, hi, hl17, rfl, ⟨lo1, lo2⟩, ⟨hi1, hi2⟩, hb1, ho1, hn1⟩
  have B1 := Lib.hid hb1
  have I1 := Lib.hid (Rngs.of_own ho1)
  obtain ⟨ok, hok⟩ : ∃ ok, raddOk l lo hi = ok := ⟨_, rfl⟩
  obtain ⟨r, hr⟩ : ∃ r, radd l lo hi = r := ⟨_, rfl⟩
  have hrl := radd_len l lo hi
  rw [hr] at hrl
  have HOK := Lib.hid hok
  have HRR := Lib.hid hr
  have hrr : (r == r) = true := by simp
  clear hb1 ho1 hn1 hok hr
  go_wp2_with fail
  refine (iradd_any v l lo hi w1 I1.out (by omega)).mono ?_
  rintro e w2 ⟨v2, rfl, hb2, ho2, _⟩
  rw [HOK.out]
  rw [HRR.out] at ho2
  have B2 := Lib.hid (B1.out.trans (hb2.mono B1.out.size))
  have I1b := Lib.hid (I1.out.below hb2)
  have C2 := Lib.hid hb2
  have I2 := Lib.hid (Rngs.of_own ho2)
  clear hb2 ho2
  go_wp2_with fail
  refine (sradd_any v l lo hi w2 I1b.out (by omega)).mono ?_
  rintro e w3 ⟨v3, rfl, hb3, ho3, _⟩
  rw [HOK.out]
  rw [HRR.out] at ho3
  have B3 := Lib.hid (B2.out.trans (hb3.mono B2.out.size))
  have I2b := Lib.hid (I2.out.below hb3)
  have C3 := Lib.hid (C2.out.trans (hb3.mono C2.out.size))
  have I3 := Lib.hid (Rngs.of_own ho3)
  clear hb3 ho3
  go_wp2_with fail
  refine (samerg_any v2 v3 r r w3 I2b.out I3.out (by omega) (by omega)).mono ?_
  rintro e w4 ⟨rfl, hb4⟩
  rw [hrr]
  have B4 := Lib.hid (B3.out.trans (hb4.mono B3.out.size))
  have I2c := Lib.hid (I2b.out.below hb4)
  have B4i := Lib.hid (C3.out.trans (hb4.mono C3.out.size))
  have I3b := Lib.hid (I3.out.below hb4)
  clear hb4
  cases ok
  · go_wp2_with fail
    refine (samerg_any v2 v3 r r w4 I2c.out I3b.out (by omega) (by omega)).mono ?_
    rintro e w5 ⟨rfl, hb5⟩
    rw [hrr]
    have B5 := Lib.hid (B4.out.trans (hb5.mono B4.out.size))
    clear hb5
    go_wp2_with fail
    go_ret
    exact ⟨rfl, B5.out⟩
  · obtain ⟨ok1, hok1⟩ : ∃ ok, rremOk r lo hi = ok := ⟨_, rfl⟩
    obtain ⟨ok2, hok2⟩ : ∃ ok, rremOk l lo hi = ok := ⟨_, rfl⟩
    have hund := add_undo (l := l) (lo := lo) (hi := hi) HOK.out
    rw [HRR.out, hok1, hok2] at hund
    have h1l := rrem_len r lo hi
    have h2l := rrem_len l lo hi
    obtain ⟨r1, hr1⟩ : ∃ q, rrem r lo hi = q := ⟨_, rfl⟩
    obtain ⟨r2, hr2⟩ : ∃ q, rrem l lo hi = q := ⟨_, rfl⟩
    rw [hr1] at hund h1l
    rw [hr2] at hund h2l
    have HUND := Lib.hid hund
    have HK1 := Lib.hid hok1
    have HK2 := Lib.hid hok2
    have HR1 := Lib.hid hr1
    have HR2 := Lib.hid hr2
    have I1c := Lib.hid (I1.out.below B4i.out)
    clear hund hok1 hok2 hr1 hr2
    go_wp2_with fail
    refine (irrem_any v2 r lo hi w4 I2c.out (by omega)).mono ?_
    rintro e w5 ⟨v5, rfl, hb5, ho5, _⟩
    rw [HK1.out]
    rw [HR1.out] at ho5
    have B5 := Lib.hid (B4.out.trans (hb5.mono B4.out.size))
    have I1d := Lib.hid (I1c.out.below hb5)
    have I5 := Lib.hid (Rngs.of_own ho5)
    clear hb5 ho5
    go_wp2_with fail
    refine (irrem_any v l lo hi w5 I1d.out (by omega)).mono ?_
    rintro e w6 ⟨v6, rfl, hb6, ho6, _⟩
    rw [HK2.out]
    rw [HR2.out] at ho6
    have B6 := Lib.hid (B5.out.trans (hb6.mono B5.out.size))
    have I5b := Lib.hid (I5.out.below hb6)
    have I6 := Lib.hid (Rngs.of_own ho6)
    clear hb6 ho6
    cases ok1
    · go_wp2_with fail
      go_ret
      exact ⟨rfl, B6.out⟩
    · cases ok2
      · go_wp2_with fail
        go_ret
        exact ⟨rfl, B6.out⟩
      · have heq := HUND.out rfl rfl
        have HEQ := Lib.hid (show (r1 == r2) = true by rw [heq]; simp)
        clear heq
        go_wp2_with fail
        refine (samerg_any v5 v6 r1 r2 w6 I5b.out I6.out (by omega) (by omega)).mono ?_
        rintro e w7 ⟨rfl, hb7⟩
        rw [HEQ.out]
        have B7 := Lib.hid (B6.out.trans (hb7.mono B6.out.size))
        clear hb7
        go_wp2_with fail
        go_ret
        exact ⟨rfl, B7.out⟩

end Go.Proofs.Ytcjhbcibhcogjaa
