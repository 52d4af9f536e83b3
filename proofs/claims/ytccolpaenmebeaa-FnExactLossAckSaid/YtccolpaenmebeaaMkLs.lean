/- markLoss, heldLoss. -/
import Derived.Test.YtccolpaenmebeaaToLs
import Derived.Test.YtccolpaenmebeaaMkPks
namespace Go.Proofs.Ytccolpaenmebeaa
open Go.RowKit
set_option linter.unusedVariables false
set_option linter.unusedSimpArgs false

set_option maxRecDepth 100000 in
set_option maxHeartbeats 1000000 in
theorem mkls_any (k g : Int) (v : Value) (l : List Pk) (B : Nat) (w : World) (h : OwnPk w B v l) (hl : l.length ≤ 1048576) :
    Calls Try.prog 12 #[.agg #[.int .i64 k, v, .int .i64 g], .int .i64 1] w fun e w' => e = .returned (.int .i64 (1 + 3 * (l.length : Int))) ∧ w.grownBy w' v.ownBlock ∧ OwnPk w' B v (pmarks l.length) := by
  have U : Below w.heap.size w (w.alloc (.cells #[.int .i64 k, v, .int .i64 g] 24)) := (Below.refl _ _).alloc (Nat.le_refl _) _
  have HM := Lib.hid (markpk_any v l B _ (OwnPk.below h U) hl)
  have GR := Lib.hid (show w.grownBy (w.alloc (.cells #[.int .i64 k, v, .int .i64 g] 24)) v.ownBlock from ⟨U.os, U.tape, U.output, U.size, fun j hj _ => U.block j hj⟩)
  obtain ⟨a, c, rfl⟩ := ownsRow_shape h
  clear h U
  go_enter Try.func12, Try.ntmps12
  go_wp2_with fail
  refine HM.out.mono ?_
  rintro e w1 ⟨rfl, hg, ho⟩
  have HG := Lib.hid (GR.out.trans hg)
  have HO := Lib.hid ho
  clear hg ho
  go_wp2_with fail
  go_ret
  exact ⟨rfl, HG.out, HO.out⟩

set_option maxRecDepth 100000 in
set_option maxHeartbeats 1000000 in
theorem hdls_any (k g : Int) (a : Option Addr) (n c : Nat) (w : World) (h : Pks w (.slice a n c) (pmarks n)) (hl : n ≤ 1048576) :
    Calls Try.prog 13 #[.agg #[.int .i64 k, .slice a n c, .int .i64 g], .int .i64 1] w fun e w' => e = .returned (.int .i64 (1 + 3 * (n : Int))) ∧ Below w.heap.size w w' := by
  have HH := Lib.hid (heldpk_any _ n _ (h.below ((Below.refl _ _).alloc (Nat.le_refl _) (.cells #[.int .i64 k, .slice a n c, .int .i64 g] 24))) hl)
  clear h
  go_enter Try.func13, Try.ntmps13
  go_wp2_with fail
  refine HH.out.mono ?_
  rintro e w1 ⟨rfl, rfl⟩
  have hz : ¬ (1 + 3 * (n : Int)) < 0 := by omega
  go_wp2_with fail
  go_ret
  exact ⟨rfl, (Below.refl _ _).alloc (Nat.le_refl _) _⟩

end Go.Proofs.Ytccolpaenmebeaa
