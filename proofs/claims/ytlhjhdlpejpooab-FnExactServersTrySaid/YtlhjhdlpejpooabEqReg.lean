/- eqRegister. -/
import Derived.Test.YtlhjhdlpejpooabToReg
namespace Go.Proofs.Ytlhjhdlpejpooab
open Go.RowKit
set_option linter.unusedVariables false
set_option linter.unusedSimpArgs false

set_option maxRecDepth 100000 in
set_option maxHeartbeats 1000000 in
theorem eqreg_any (k : Int) (xs : List Tic) (a a' : Option Addr) (c c' : Nat) (w : World) (h : Tics w (.slice a xs.length c) xs) (h' : Tics w (.slice a' xs.length c') xs) (hl : xs.length ≤ 1048576) :
    Calls Try.prog 14 #[.agg #[.int .i64 k, .slice a xs.length c], .agg #[.int .i64 k, .slice a' xs.length c']] w fun e w' => e = .returned (.bool true) ∧ Below w.heap.size w w' := by
  have BB : Hid (Below w.heap.size w ((w.alloc (.cells #[.int .i64 k, .slice a xs.length c] 28)).alloc (.cells #[.int .i64 k, .slice a' xs.length c'] 28))) := Lib.hid (((Below.refl w.heap.size w).alloc (Nat.le_refl _) _).alloc (by simp) _)
  have HE := Lib.hid (fun W h h' => eqrs_any (.slice a xs.length c) (.slice a' xs.length c') xs xs W h h' hl hl)
  rw [beq_self_eq_true] at HE
  have HV := Lib.hid h
  have HV' := Lib.hid h'
  have hkk : (k != k) = false := by simp
  clear h h'
  go_enter Try.func14, Try.ntmps14
  go_wp2_with fail
  refine (HE.out _ (HV.out.below BB.out) (HV'.out.below BB.out)).mono ?_
  rintro e w1 ⟨rfl, hb⟩
  have HB := Lib.hid (BB.out.trans (hb.mono BB.out.size))
  clear hb
  go_wp2_with fail
  go_ret
  exact ⟨rfl, HB.out⟩

end Go.Proofs.Ytlhjhdlpejpooab
