/- markRegister, heldRegister. -/
import Derived.Test.YtlhjhdlpejpooabToReg
import Derived.Test.YtlhjhdlpejpooabMkTs
namespace Go.Proofs.Ytlhjhdlpejpooab
open Go.RowKit
set_option linter.unusedVariables false
set_option linter.unusedSimpArgs false

set_option maxRecDepth 100000 in
set_option maxHeartbeats 1000000 in
theorem mkreg_any (k : Int) (v : Value) (l : List Tic) (B : Nat) (w : World) (h : OwnTc w B v l) (hl : l.length ≤ 1048576) :
    Calls Try.prog 15 #[.agg #[.int .i64 k, v], .int .i64 1] w fun e w' => e = .returned (.int .i64 (1 + 2 * (l.length : Int))) ∧ w.grownBy w' v.ownBlock ∧ OwnTc w' B v (rmarks l.length) := by
  have U : Below w.heap.size w (w.alloc (.cells #[.int .i64 k, v] 28)) := (Below.refl _ _).alloc (Nat.le_refl _) _
  have HM := Lib.hid (markr_any v l B _ (OwnTc.below h U) hl)
  have GR := Lib.hid (show w.grownBy (w.alloc (.cells #[.int .i64 k, v] 28)) v.ownBlock from ⟨U.os, U.tape, U.output, U.size, fun j hj _ => U.block j hj⟩)
  obtain ⟨a, c, rfl⟩ := ownsRow_shape h
  clear h U
  go_enter Try.func15, Try.ntmps15
  go_wp2_with fail
  refine HM.out.mono ?_
  rintro e w1 ⟨rfl, hg, ho⟩
  have HG := Lib.hid (GR.out.trans hg)
  have HO := Lib.hid ho
  clear hg ho
  go_wp2_with fail
  go_ret
  exact ⟨rfl, HG.out, HO.out⟩

set_option maxRecDepth 100000 in
set_option maxHeartbeats 1000000 in
theorem hdreg_any (k : Int) (a : Option Addr) (n c : Nat) (w : World) (h : Tics w (.slice a n c) (rmarks n)) (hl : n ≤ 1048576) :
    Calls Try.prog 16 #[.agg #[.int .i64 k, .slice a n c], .int .i64 1] w fun e w' => e = .returned (.int .i64 (1 + 2 * (n : Int))) ∧ Below w.heap.size w w' := by
  have HH := Lib.hid (heldr_any _ n _ (h.below ((Below.refl _ _).alloc (Nat.le_refl _) (.cells #[.int .i64 k, .slice a n c] 28))) hl)
  clear h
  go_enter Try.func16, Try.ntmps16
  go_wp2_with fail
  refine HH.out.mono ?_
  rintro e w1 ⟨rfl, rfl⟩
  have hz : ¬ (1 + 2 * (n : Int)) < 0 := by omega
  go_wp2_with fail
  go_ret
  exact ⟨rfl, (Below.refl _ _).alloc (Nat.le_refl _) _⟩

end Go.Proofs.Ytlhjhdlpejpooab
