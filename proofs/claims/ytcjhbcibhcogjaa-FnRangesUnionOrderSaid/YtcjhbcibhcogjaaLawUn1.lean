/- The law RangesUnionOrder: the walk. -/
import Derived.Test.YtcjhbcibhcogjaaIUn
import Derived.Test.YtcjhbcibhcogjaaSUn
import Derived.Test.YtcjhbcibhcogjaaDrUn
import Derived.Test.YtcjhbcibhcogjaaRgLaw
import Derived.Test.YtcjhbcibhcogjaaSameRg
import Derived.Test.YtcjhbcibhcogjaaUnLaw
namespace Go.Proofs.Ytcjhbcibhcogjaa
open Go.RowKit
set_option linter.unusedVariables false
set_option linter.unusedSimpArgs false

set_option maxRecDepth 100000 in
set_option maxHeartbeats 1000000 in
theorem unorder_walk (a : Option Addr) (len cap : Nat) (zs : List Int) (w : World) (h : IsRow .u8 w a len cap zs) :
    Calls Try.prog 8 #[.slice a len cap] w fun e w' => e = .returned (.bool true) ∧ Below w.heap.size w w' := by
  have H := Lib.hid h
  clear h
  by_cases hl : 1048576 < len
  · go_enter Try.func8, Try.ntmps8
    go_wp2
    go_ret
    exact ⟨rfl, Below.refl _ _⟩
  go_enter Try.func8, Try.ntmps8
  go_wp2_with fail
  refine (drawUn_any a len cap zs w H.out).mono ?_
  rintro e w1 ⟨v, u, l, m, hl17, hm17, rfl, hb1, ho1, hu1⟩
  have B1 := Lib.hid hb1
  have I1 := Lib.hid (Rngs.of_own ho1)
  have J1 := Lib.hid (Rngs.of_own hu1)
  obtain ⟨ok, hok⟩ : ∃ ok, runionOk l m = ok := ⟨_, rfl⟩
  obtain ⟨r, hr⟩ : ∃ r, runion l m = r := ⟨_, rfl⟩
  have hrl := runion_len l m
  rw [hr] at hrl
  have HOK := Lib.hid hok
  have HRR := Lib.hid hr
  have hrr : (r == r) = true := by simp
  clear hb1 ho1 hu1 hok hr
  go_wp2_with fail
  refine (iunion_any v u l m w1 I1.out J1.out (by omega) (by omega)).mono ?_
  rintro e w2 ⟨v2, rfl, hb2, ho2, _⟩
  rw [HOK.out]
  rw [HRR.out] at ho2
  have B2 := Lib.hid (B1.out.trans (hb2.mono B1.out.size))
  have I1b := Lib.hid (I1.out.below hb2)
  have J1b := Lib.hid (J1.out.below hb2)
  have C2 := Lib.hid hb2
  have I2 := Lib.hid (Rngs.of_own ho2)
  clear hb2 ho2
  go_wp2_with fail
  refine (sunion_any v u l m w2 I1b.out J1b.out (by omega) (by omega)).mono ?_
  rintro e w3 ⟨v3, rfl, hb3, ho3, _⟩
  rw [HOK.out]
  rw [HRR.out] at ho3
  have B3 := Lib.hid (B2.out.trans (hb3.mono B2.out.size))
  have I2b := Lib.hid (I2.out.below hb3)
  have C3 := Lib.hid (C2.out.trans (hb3.mono C2.out.size))
  have I3 := Lib.hid (Rngs.of_own ho3)
  clear hb3 ho3
  go_wp2_with fail
  refine (samerg_any v2 v3 r r w3 I2b.out I3.out (by omega) (by omega)).mono ?_
  rintro e w4 ⟨rfl, hb4⟩
  rw [hrr]
  have B4 := Lib.hid (B3.out.trans (hb4.mono B3.out.size))
  have I2c := Lib.hid (I2b.out.below hb4)
  have B4i := Lib.hid (C3.out.trans (hb4.mono C3.out.size))
  have I3b := Lib.hid (I3.out.below hb4)
  clear hb4
  cases ok
  · go_wp2_with fail
    refine (samerg_any v2 v3 r r w4 I2c.out I3b.out (by omega) (by omega)).mono ?_
    rintro e w5 ⟨rfl, hb5⟩
    rw [hrr]
    have B5 := Lib.hid (B4.out.trans (hb5.mono B4.out.size))
    clear hb5
    go_wp2_with fail
    go_ret
    exact ⟨rfl, B5.out⟩
  · have hp := union_order HOK.out
    rw [HRR.out] at hp
    obtain ⟨p1, p2, p3, p4⟩ := hp
    have P1 := Lib.hid p1
    have P2 := Lib.hid p2
    have P3 := Lib.hid p3
    have P4 := Lib.hid p4
    have hll : (l == l) = true := by simp
    have I1c := Lib.hid (I1.out.below B4i.out)
    have J1c := Lib.hid (J1.out.below B4i.out)
    clear p1 p2 p3 p4
    go_wp2_with fail
    refine (iunion_any u v m l w4 J1c.out I1c.out (by omega) (by omega)).mono ?_
    rintro e w5 ⟨v5, rfl, hb5, ho5, _⟩
    rw [P1.out]
    rw [P2.out] at ho5
    have B5 := Lib.hid (B4.out.trans (hb5.mono B4.out.size))
    have I1d := Lib.hid (I1c.out.below hb5)
    have I2d := Lib.hid (I2c.out.below hb5)
    have I5 := Lib.hid (Rngs.of_own ho5)
    clear hb5 ho5
    go_wp2_with fail
    refine (iunion_any v v l l w5 I1d.out I1d.out (by omega) (by omega)).mono ?_
    rintro e w6 ⟨v6, rfl, hb6, ho6, _⟩
    rw [P3.out]
    rw [P4.out] at ho6
    have B6 := Lib.hid (B5.out.trans (hb6.mono B5.out.size))
    have I1e := Lib.hid (I1d.out.below hb6)
    have I2e := Lib.hid (I2d.out.below hb6)
    have I5b := Lib.hid (I5.out.below hb6)
    have I6 := Lib.hid (Rngs.of_own ho6)
    clear hb6 ho6
    go_wp2_with fail
    refine (samerg_any v5 v2 r r w6 I5b.out I2e.out (by omega) (by omega)).mono ?_
    rintro e w7 ⟨rfl, hb7⟩
    rw [hrr]
    have B7 := Lib.hid (B6.out.trans (hb7.mono B6.out.size))
    have I1f := Lib.hid (I1e.out.below hb7)
    have I6b := Lib.hid (I6.out.below hb7)
    clear hb7
    go_wp2_with fail
    refine (samerg_any v6 v l l w7 I6b.out I1f.out (by omega) (by omega)).mono ?_
    rintro e w8 ⟨rfl, hb8⟩
    rw [hll]
    have B8 := Lib.hid (B7.out.trans (hb8.mono B7.out.size))
    clear hb8
    go_wp2_with fail
    go_ret
    exact ⟨rfl, B8.out⟩

end Go.Proofs.Ytcjhbcibhcogjaa
