/- The law 'exact' of VarintSplit: the walk. -/
import Derived.Test.YtfppnaaofkicaabEqInt
import Derived.Test.YtfppnaaofkicaabMark
namespace Go.Proofs.Ytfppnaaofkicaab
open Go.RowKit
set_option linter.unusedVariables false
set_option linter.unusedSimpArgs false

set_option maxHeartbeats 1000000 in
theorem exsplit_walk (s : ByteArray) (w : World) (hs : s.size ≤ maxLen) : Calls Try.prog 10 #[.string s] w fun e w' => e = .returned (.bool true) ∧ Below w.heap.size w w' := by
  by_cases hl : (1048576 : Int) < s.size
  · go_enter Try.func10, Try.ntmps10
    go_wp2
    go_ret
    exact ⟨rfl, Below.refl _ _⟩
  obtain ⟨ok, hok⟩ : ∃ ok, (splF s).isSome = ok := ⟨_, rfl⟩
  obtain ⟨xs, hxs⟩ : ∃ xs, (splF s).getD [] = xs := ⟨_, rfl⟩
  have hlen := splF_len s
  rw [hxs] at hlen
  have HOK := Lib.hid hok
  have HXS := Lib.hid hxs
  have HSM := Lib.hid hs
  clear hok hxs hs
  have hxx : (xs == xs) = true := by simp
  go_enter Try.func10, Try.ntmps10
  go_wp2_with fail
  refine (ssplit_any s w HSM.out).mono ?_
  rintro e w1 ⟨v0, rfl, hb1, ho0, _⟩
  rw [HXS.out] at ho0
  rw [HOK.out]
  have O0 := Lib.hid ho0
  have B1 := Lib.hid hb1
  clear ho0 hb1
  go_wp2_with fail
  refine (isplit_any s w1 HSM.out).mono ?_
  rintro e w2 ⟨v1, rfl, hb2, ho1, _⟩
  rw [HXS.out] at ho1
  rw [HOK.out]
  have O1 := Lib.hid ho1
  have B2 := Lib.hid (B1.out.trans (hb2.mono B1.out.size))
  have O0b := Lib.hid (own_below O0.out hb2)
  have hs1 := hb2.size
  clear ho1 hb2
  go_wp2_with fail
  refine (eqint_any v1 v0 xs xs w2 (Ints.of_own O1.out) (Ints.of_own O0b.out) (by omega) (by omega)).mono ?_
  rintro e w3 ⟨rfl, hb3⟩
  rw [hxx]
  have B3 := Lib.hid (B2.out.trans (hb3.mono B2.out.size))
  have O0c := Lib.hid (own_below O0b.out hb3)
  have O1c := Lib.hid (own_below O1.out hb3)
  clear hb3
  go_wp2_with fail
  refine (mark_one v1 xs _ w3 O1c.out (by omega)).mono ?_
  rintro e w4 ⟨rfl, hg4, ho1d⟩
  have O1d := Lib.hid ho1d
  have O0d := Lib.hid (O0c.out.kept hg4 (own_ne O0.out O1.out (Nat.le_refl _)))
  have hb4 : Below w.heap.size w w4 := B3.out.grown hg4 B3.out.size (fun k hk => by have := (O1.out.lt k hk).1; have := B1.out.size; omega)
  have B4 := Lib.hid hb4
  have I1d := Lib.hid (Ints.of_own (xs := marks 1 xs.length) (by rw [marks_len]; exact O1d.out))
  clear hg4 ho1d hb4
  go_wp2_with fail
  refine (held_one v1 xs.length w4 I1d.out (by omega)).mono ?_
  rintro e w4 ⟨rfl, rfl⟩
  go_wp2_with fail
  refine (isplit_any s w4 HSM.out).mono ?_
  rintro e w5 ⟨v2, rfl, hb5, ho2, _⟩
  rw [HXS.out] at ho2
  rw [HOK.out]
  have O2 := Lib.hid ho2
  have B5 := Lib.hid (B4.out.trans (hb5.mono B4.out.size))
  have O0e := Lib.hid (own_below O0d.out hb5)
  have I1e := Lib.hid (I1d.out.below hb5)
  clear ho2 hb5
  go_wp2_with fail
  refine (eqint_any v2 v0 xs xs w5 (Ints.of_own O2.out) (Ints.of_own O0e.out) (by omega) (by omega)).mono ?_
  rintro e w6 ⟨rfl, hb6⟩
  rw [hxx]
  have B6 := Lib.hid (B5.out.trans (hb6.mono B5.out.size))
  have I1f := Lib.hid (I1e.out.below hb6)
  clear hb6
  go_wp2_with fail
  refine (held_one v1 xs.length w6 I1f.out (by omega)).mono ?_
  rintro e w6 ⟨rfl, rfl⟩
  go_wp2_with fail
  go_ret
  exact ⟨rfl, B6.out⟩

end Go.Proofs.Ytfppnaaofkicaab
