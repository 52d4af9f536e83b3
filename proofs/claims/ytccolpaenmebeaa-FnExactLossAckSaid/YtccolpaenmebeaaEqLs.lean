/- eqLoss. -/
import Derived.Test.YtccolpaenmebeaaToLs
namespace Go.Proofs.Ytccolpaenmebeaa
open Go.RowKit
set_option linter.unusedVariables false
set_option linter.unusedSimpArgs false

set_option maxRecDepth 100000 in
set_option maxHeartbeats 1000000 in
theorem eqls_any (k g : Int) (xs : List Pk) (a a' : Option Addr) (c c' : Nat) (w : World) (h : Pks w (.slice a xs.length c) xs) (h' : Pks w (.slice a' xs.length c') xs) (hl : xs.length ≤ 1048576) :
    Calls Try.prog 11 #[.agg #[.int .i64 k, .slice a xs.length c, .int .i64 g], .agg #[.int .i64 k, .slice a' xs.length c', .int .i64 g]] w fun e w' => e = .returned (.bool true) ∧ Below w.heap.size w w' := by
  have BB : Hid (Below w.heap.size w ((w.alloc (.cells #[.int .i64 k, .slice a xs.length c, .int .i64 g] 24)).alloc (.cells #[.int .i64 k, .slice a' xs.length c', .int .i64 g] 24))) := Lib.hid (((Below.refl w.heap.size w).alloc (Nat.le_refl _) _).alloc (by simp) _)
  have HE := Lib.hid (fun W h h' => eqpks_any (.slice a xs.length c) (.slice a' xs.length c') xs xs W h h' hl hl)
  rw [beq_self_eq_true] at HE
  have HV := Lib.hid h
  have HV' := Lib.hid h'
  have hkk : (k != k) = false := by simp
  have hgg : (g != g) = false := by simp
  clear h h'
  have X1 := Lib.hid ((C3.new w (.int .i64 k) (.slice a xs.length c) (.int .i64 g) 24).alloc (.cells #[.int .i64 k, .slice a' xs.length c', .int .i64 g] 24))
  have X2 := C3.new (w.alloc (.cells #[.int .i64 k, .slice a xs.length c, .int .i64 g] 24)) (.int .i64 k) (.slice a' xs.length c') (.int .i64 g) 24
  rw [show (w.alloc (.cells #[.int .i64 k, .slice a xs.length c, .int .i64 g] 24)).heap.size = w.heap.size + 1 by simp] at X2
  have X2 := Lib.hid X2
  go_enter Try.func11, Try.ntmps11
  go_wp2_with fail
  refine (HE.out _ (HV.out.below BB.out) (HV'.out.below BB.out)).mono ?_
  rintro e w1 ⟨rfl, hb⟩
  have HB := Lib.hid (BB.out.trans (hb.mono BB.out.size))
  obtain ⟨y0, y1, y2⟩ := X1.out.below hb
  obtain ⟨z0, z1, z2⟩ := X2.out.below hb
  clear hb
  go_wp2_with fail
  go_ret
  exact ⟨rfl, HB.out⟩

end Go.Proofs.Ytccolpaenmebeaa
