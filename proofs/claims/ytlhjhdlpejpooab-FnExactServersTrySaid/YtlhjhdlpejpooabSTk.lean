/- The model's order of tickets, and what a ticket is. -/
import Derived.Test.YtlhjhdlpejpooabTic
import Derived.Test.YtlhjhdlpejpooabUp
import Derived.Deep.Draws
import Derived.Deep.QuietTactic
import Derived.BigQuiet
namespace Go.Proofs.Ytlhjhdlpejpooab
open Go.RowKit
set_option linter.unusedVariables false
set_option linter.unusedSimpArgs false

def BoolB (w : World) (b : Bool) (e : Ending) (w' : World) : Prop := e = .returned (.bool b) ∧ Below w.heap.size w w'
theorem TL_dec (a b : Tic) : decide (TL a b) = (decide (a.2 < b.2) || ((a.2 == b.2) && decide (a.1 < b.1))) := by
  rw [Bool.eq_iff_iff]; simp only [Bool.or_eq_true, Bool.and_eq_true, decide_eq_true_eq, beq_iff_eq]; rfl
set_option maxRecDepth 100000 in
set_option maxHeartbeats 1000000 in
theorem sless_any (a b : Tic) (w : World) : Calls Try.prog 68 #[.agg #[.int .i64 a.1, .int .i64 a.2], .agg #[.int .i64 b.1, .int .i64 b.2]] w (BoolB w (decide (TL a b))) := by
  rw [TL_dec]
  obtain ⟨a1, a2⟩ := a
  obtain ⟨b1, b2⟩ := b
  show Calls Try.prog 68 #[.agg #[.int .i64 a1, .int .i64 a2], .agg #[.int .i64 b1, .int .i64 b2]] w (BoolB w (decide (a2 < b2) || ((a2 == b2) && decide (a1 < b1))))
  obtain ⟨q1, h1⟩ : ∃ q, decide (a2 < b2) = q := ⟨_, rfl⟩
  obtain ⟨q2, h2⟩ : ∃ q, (a2 == b2) = q := ⟨_, rfl⟩
  obtain ⟨q3, h3⟩ : ∃ q, decide (a1 < b1) = q := ⟨_, rfl⟩
  rw [h1, h2, h3]
  cases q1 <;> cases q2 <;> cases q3
  all_goals
    go_enter Try.func68, Try.ntmps68
    go_wp2_with fail
    go_ret
    exact ⟨rfl, ((Below.refl _ _).alloc (Nat.le_refl _) _).alloc (by simp) _⟩

theorem tkvd_dec (t : Tic) : decide (tkvd t) = (decide (0 ≤ t.1 ∧ t.1 ≤ 99) && decide (0 ≤ t.2 ∧ t.2 ≤ 999)) := by
  rw [Bool.eq_iff_iff]; simp only [Bool.and_eq_true, decide_eq_true_eq]; rfl
set_option maxRecDepth 100000 in
set_option maxHeartbeats 1000000 in
theorem sticket_any (t : Tic) (w : World) : Calls Try.prog 50 #[.agg #[.int .i64 t.1, .int .i64 t.2]] w (BoolB w (decide (tkvd t))) := by
  rw [tkvd_dec]
  obtain ⟨x, y⟩ := t
  show Calls Try.prog 50 #[.agg #[.int .i64 x, .int .i64 y]] w (BoolB w (decide (0 ≤ x ∧ x ≤ 99) && decide (0 ≤ y ∧ y ≤ 999)))
  obtain ⟨q1, h1⟩ : ∃ q, decide (0 ≤ x ∧ x ≤ 99) = q := ⟨_, rfl⟩
  obtain ⟨q2, h2⟩ : ∃ q, decide (0 ≤ y ∧ y ≤ 999) = q := ⟨_, rfl⟩
  rw [h1, h2]
  have H1 := Lib.hid h1
  have H2 := Lib.hid h2
  clear h1 h2
  cases q1 <;> cases q2
  all_goals
    go_enter Try.func50, Try.ntmps50
    go_wp2_with (first | (go_at_call 39; refine (l6In_any _ _ _ _).mono ?_; rw [H1.out]; rintro e w' ⟨rfl, rfl⟩) | (go_at_call 39; refine (l6In_any _ _ _ _).mono ?_; rw [H2.out]; rintro e w' ⟨rfl, rfl⟩))
    go_ret
    exact ⟨rfl, (Below.refl _ _).alloc (Nat.le_refl _) _⟩

end Go.Proofs.Ytlhjhdlpejpooab
