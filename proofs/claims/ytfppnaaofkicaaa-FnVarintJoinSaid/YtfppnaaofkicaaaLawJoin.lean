/- The law VarintJoin: the walk. -/
import Derived.Test.YtfppnaaofkicaaaDrJoin
import Derived.Test.YtfppnaaofkicaaaJoinM
import Derived.Test.YtfppnaaofkicaaaSame
namespace Go.Proofs.Ytfppnaaofkicaaa
open Go.RowKit
set_option linter.unusedVariables false
set_option linter.unusedSimpArgs false

set_option maxHeartbeats 1000000 in
theorem lawjoin_walk (a : Option Addr) (len cap : Nat) (zs : List Int) (w : World) (h : IsRow .u8 w a len cap zs) :
    Calls Try.prog 9 #[.slice a len cap] w fun e w' => e = .returned (.bool true) ∧ Below w.heap.size w w' := by
  have H := Lib.hid h
  clear h
  by_cases hl : 1048576 < len
  · go_enter Try.func9, Try.ntmps9
    go_wp2
    go_ret
    exact ⟨rfl, Below.refl _ _⟩
  go_enter Try.func9, Try.ntmps9
  go_wp2_with fail
  refine (drawJoin_any a len cap zs w H.out).mono ?_
  rintro e w1 ⟨v, xs, hx5, rfl, hb1, ho1, _⟩
  have B1 := Lib.hid hb1
  have I1 := Lib.hid (Ints.of_own ho1)
  have hxx : (xs == xs) = true := by simp
  obtain ⟨ok, hok⟩ : ∃ ok, jok xs = ok := ⟨_, rfl⟩
  obtain ⟨t, ht⟩ : ∃ t, jres xs = t := ⟨_, rfl⟩
  have hts := jres_size xs
  rw [ht] at hts
  have HTM := Lib.hid (show t.size ≤ maxLen by unfold maxLen; omega)
  have HOK := Lib.hid hok
  have HT := Lib.hid ht
  clear hb1 ho1 hok ht hts
  go_wp2_with fail
  refine (ijoin_any v xs w1 I1.out (by omega)).mono ?_
  rintro e w2 ⟨rfl, hb2⟩
  rw [HOK.out, HT.out]
  have B2 := Lib.hid (B1.out.trans (hb2.mono B1.out.size))
  have I2 := Lib.hid (I1.out.below hb2)
  clear hb2
  go_wp2_with fail
  refine (sjoin_any v xs w2 I2.out (by omega)).mono ?_
  rintro e w3 ⟨rfl, hb3⟩
  rw [HOK.out, HT.out]
  have B3 := Lib.hid (B2.out.trans (hb3.mono B2.out.size))
  have I3 := Lib.hid (I2.out.below hb3)
  clear hb3
  cases ok
  · go_wp2_with fail
    go_ret
    exact ⟨ret_bool (by simp), B3.out⟩
  · have hsp := splF_join xs HOK.out
    rw [HT.out] at hsp
    have HSP := Lib.hid hsp
    clear hsp
    go_wp2_with fail
    refine (isplit_any t w3 HTM.out).mono ?_
    rintro e w4 ⟨v4, rfl, hb4, ho4, _⟩
    rw [HSP.out] at ho4
    rw [HSP.out]
    have B4 := Lib.hid (B3.out.trans (hb4.mono B3.out.size))
    have I4 := Lib.hid (Ints.of_own (xs := xs) ho4)
    have I4b := Lib.hid (I3.out.below hb4)
    clear hb4 ho4
    go_wp2_with fail
    refine (same_any v4 v xs xs w4 I4.out I4b.out (by omega) (by omega)).mono ?_
    rintro e w5 ⟨rfl, hb5⟩
    rw [hxx]
    have B5 := Lib.hid (B4.out.trans (hb5.mono B4.out.size))
    clear hb5
    go_wp2_with fail
    go_ret
    exact ⟨rfl, B5.out⟩

end Go.Proofs.Ytfppnaaofkicaaa
