/- LossNew, the model's and the program's. -/
import Derived.Test.YtpbkhlkhnjmacaaPk
import Derived.Laws.ResultCell
namespace Go.Proofs.Ytpbkhlkhnjmacaa
open Go.RowKit
set_option linter.unusedVariables false
set_option linter.unusedSimpArgs false

theorem results_c1 {fn : Func} {p : Tmp} {ty : TypeId} (h : fn.results = #[.cell p ty]) (tmps : Array Value) (P : Program) (w : World) :
    (results fn tmps).run P w = ((asAddr (tmps.getD p undef)).run P w).andThen fun a w₁ => (loadVar ty a).run P w₁ := by
  simp only [results, h]
  simp [Sem.run_bind, Result.andThen]

set_option maxRecDepth 100000 in
set_option maxHeartbeats 1000000 in
theorem inew_any (w : World) : Calls Try.prog 16 #[] w fun e w' => e = .returned (.agg #[.int .i64 0, .slice none 0 0, .int .i64 (-1)]) ∧ Below w.heap.size w w' := by
  have B := Lib.hid ((Below.refl w.heap.size w).alloc (Nat.le_refl _) (.cells #[.int .i64 0, .slice none 0 0, .int .i64 (-1)] 25))
  have X := Lib.hid (C3.new w (.int .i64 0) (.slice none 0 0) (.int .i64 (-1)) 25)
  go_enter Try.func16, Try.ntmps16
  go_wp2_with fail
  generalize w.alloc (.cells #[.int .i64 0, .slice none 0 0, .int .i64 (-1)] 25) = WF at B X ⊢
  obtain ⟨k0, k1, k2⟩ := X.out
  refine bodyPost_ret (v := .agg #[.int .i64 0, .slice none 0 0, .int .i64 (-1)]) ?hr rfl ?_
  case hr => rw [results_c1 rfl]; go_simp
  exact ⟨rfl, B.out⟩

set_option maxRecDepth 100000 in
set_option maxHeartbeats 1000000 in
theorem snew_any (w : World) : Calls Try.prog 18 #[] w fun e w' => ∃ v, e = .returned (.agg #[.int .i64 0, v, .int .i64 (-1)]) ∧ OwnPk w' w.heap.size v [] ∧ v.ownBlock ≠ none ∧ Below w.heap.size w w' := by
  have e1 : (w.alloc (.cells #[.int .i64 0, .slice (some ⟨w.heap.size + 1, 0, none⟩) 0 0, .int .i64 (-1)] 25)).heap.size = w.heap.size + 1 := by simp
  have B := Lib.hid (((Below.refl w.heap.size w).alloc (Nat.le_refl _) (.cells #[.int .i64 0, .slice (some ⟨w.heap.size + 1, 0, none⟩) 0 0, .int .i64 (-1)] 25)).alloc (by simp) (.cells #[] 36))
  have X := Lib.hid ((C3.new w (.int .i64 0) (.slice (some ⟨w.heap.size + 1, 0, none⟩) 0 0) (.int .i64 (-1)) 25).alloc (.cells #[] 36))
  have O : Hid (OwnPk ((w.alloc (.cells #[.int .i64 0, .slice (some ⟨w.heap.size + 1, 0, none⟩) 0 0, .int .i64 (-1)] 25)).alloc (.cells #[] 36)) w.heap.size (.slice (some ⟨w.heap.size + 1, 0, none⟩) 0 0) []) := Lib.hid (by
    have h := OwnPk.new w.heap.size (w.alloc (.cells #[.int .i64 0, .slice (some ⟨w.heap.size + 1, 0, none⟩) 0 0, .int .i64 (-1)] 25)) (by simp)
    rw [e1] at h; exact h)
  clear e1
  go_enter Try.func18, Try.ntmps18
  go_wp2_with fail
  generalize (w.alloc (.cells #[.int .i64 0, .slice (some ⟨w.heap.size + 1, 0, none⟩) 0 0, .int .i64 (-1)] 25)).alloc (.cells #[] 36) = WF at B X O ⊢
  obtain ⟨k0, k1, k2⟩ := X.out
  refine bodyPost_ret (v := .agg #[.int .i64 0, .slice (some ⟨w.heap.size + 1, 0, none⟩) 0 0, .int .i64 (-1)]) ?hr rfl ?_
  case hr => rw [results_c1 rfl]; go_simp
  exact ⟨_, rfl, O.out, by simp [Value.ownBlock], B.out⟩

end Go.Proofs.Ytpbkhlkhnjmacaa
