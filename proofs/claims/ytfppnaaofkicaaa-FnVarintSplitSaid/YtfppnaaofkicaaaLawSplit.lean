/- The law VarintSplit: the walk. -/
import Derived.Test.YtfppnaaofkicaaaDrSplit
import Derived.Test.YtfppnaaofkicaaaJoinM
import Derived.Test.YtfppnaaofkicaaaSame
namespace Go.Proofs.Ytfppnaaofkicaaa
open Go.RowKit
set_option linter.unusedVariables false
set_option linter.unusedSimpArgs false

set_option maxHeartbeats 1000000 in
theorem lawsplit_walk (a : Option Addr) (len cap : Nat) (zs : List Int) (w : World) (h : IsRow .u8 w a len cap zs) :
    Calls Try.prog 10 #[.slice a len cap] w fun e w' => e = .returned (.bool true) ∧ Below w.heap.size w w' := by
  have H := Lib.hid h
  clear h
  by_cases hl : 1048576 < len
  · go_enter Try.func10, Try.ntmps10
    go_wp2
    go_ret
    exact ⟨rfl, Below.refl _ _⟩
  go_enter Try.func10, Try.ntmps10
  go_wp2_with fail
  refine (drawSplit_any a len cap zs w H.out).mono ?_
  rintro e w1 ⟨s, hs, rfl, hb1⟩
  have B1 := Lib.hid hb1
  have HSM := Lib.hid (show s.size ≤ maxLen by unfold maxLen; omega)
  obtain ⟨ok, hok⟩ : ∃ ok, (splF s).isSome = ok := ⟨_, rfl⟩
  obtain ⟨xs, hxs⟩ : ∃ xs, (splF s).getD [] = xs := ⟨_, rfl⟩
  have HOK := Lib.hid hok
  have HXS := Lib.hid hxs
  have hlx : xs.length ≤ 20 := by rw [← hxs]; exact splF_len s
  have hxx : (xs == xs) = true := by simp
  clear hb1 hok hxs
  go_wp2_with fail
  refine (isplit_any s w1 HSM.out).mono ?_
  rintro e w2 ⟨v2, rfl, hb2, ho2, _⟩
  rw [HXS.out] at ho2
  rw [HOK.out]
  have B2 := Lib.hid (B1.out.trans (hb2.mono B1.out.size))
  have I2 := Lib.hid (Ints.of_own ho2)
  clear hb2 ho2
  go_wp2_with fail
  refine (ssplit_any s w2 HSM.out).mono ?_
  rintro e w3 ⟨v3, rfl, hb3, ho3, _⟩
  rw [HXS.out] at ho3
  rw [HOK.out]
  have B3 := Lib.hid (B2.out.trans (hb3.mono B2.out.size))
  have I3 := Lib.hid (Ints.of_own ho3)
  have I2b := Lib.hid (I2.out.below hb3)
  clear hb3 ho3
  go_wp2_with fail
  refine (same_any v2 v3 xs xs w3 I2b.out I3.out (by omega) (by omega)).mono ?_
  rintro e w4 ⟨rfl, hb4⟩
  rw [hxx]
  have B4 := Lib.hid (B3.out.trans (hb4.mono B3.out.size))
  have I2c := Lib.hid (I2b.out.below hb4)
  have I3b := Lib.hid (I3.out.below hb4)
  clear hb4
  cases ok
  · go_wp2_with fail
    refine (same_any v2 v3 xs xs w4 I2c.out I3b.out (by omega) (by omega)).mono ?_
    rintro e w5 ⟨rfl, hb5⟩
    rw [hxx]
    have B5 := Lib.hid (B4.out.trans (hb5.mono B4.out.size))
    clear hb5
    go_wp2_with fail
    go_ret
    exact ⟨rfl, B5.out⟩
  · have hsome : splF s = some xs := by
      have e1 := HOK.out
      have e2 := HXS.out
      cases hq : splF s with
      | none => rw [hq] at e1; cases e1
      | some l => rw [hq] at e2; simp at e2; rw [e2]
    obtain ⟨hj, hjs⟩ := split_join s xs hsome
    have hsp := splF_join xs hj
    obtain ⟨t, ht⟩ : ∃ t, jres xs = t := ⟨_, rfl⟩
    rw [ht] at hsp hjs
    have hle : (t.size : Int) ≤ (s.size : Int) := by omega
    have HJ := Lib.hid hj
    have HT := Lib.hid ht
    have HSP := Lib.hid hsp
    have HTM := Lib.hid (show t.size ≤ maxLen by unfold maxLen; omega)
    clear hsome hj ht hsp
    go_wp2_with fail
    refine (ijoin_any v2 xs w4 I2c.out (by omega)).mono ?_
    rintro e w5 ⟨rfl, hb5⟩
    rw [HJ.out, HT.out]
    have B5 := Lib.hid (B4.out.trans (hb5.mono B4.out.size))
    have I2d := Lib.hid (I2c.out.below hb5)
    clear hb5
    go_wp2_with fail
    refine (isplit_any t w5 HTM.out).mono ?_
    rintro e w6 ⟨v6, rfl, hb6, ho6, _⟩
    rw [HSP.out] at ho6
    rw [HSP.out]
    have B6 := Lib.hid (B5.out.trans (hb6.mono B5.out.size))
    have I6 := Lib.hid (Ints.of_own (xs := xs) ho6)
    have I2e := Lib.hid (I2d.out.below hb6)
    clear hb6 ho6
    go_wp2_with fail
    refine (same_any v6 v2 xs xs w6 I6.out I2e.out (by omega) (by omega)).mono ?_
    rintro e w7 ⟨rfl, hb7⟩
    rw [hxx]
    have B7 := Lib.hid (B6.out.trans (hb7.mono B6.out.size))
    clear hb7
    go_wp2_with fail
    go_ret
    exact ⟨rfl, B7.out⟩

end Go.Proofs.Ytfppnaaofkicaaa
