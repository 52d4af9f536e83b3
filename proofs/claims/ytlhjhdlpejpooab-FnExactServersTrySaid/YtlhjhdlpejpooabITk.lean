/- The program's isTicket, isRecent, TicketHome. -/
import Derived.Test.YtlhjhdlpejpooabSTk
namespace Go.Proofs.Ytlhjhdlpejpooab
open Go.RowKit
set_option linter.unusedVariables false
set_option linter.unusedSimpArgs false

set_option maxRecDepth 100000 in
set_option maxHeartbeats 1000000 in
theorem isticket_any (t : Tic) (w : World) : Calls Try.prog 52 #[.agg #[.int .i64 t.1, .int .i64 t.2]] w (BoolB w (decide (tkvd t))) := by
  rw [tkvd_dec]
  obtain ⟨x, y⟩ := t
  show Calls Try.prog 52 #[.agg #[.int .i64 x, .int .i64 y]] w (BoolB w (decide (0 ≤ x ∧ x ≤ 99) && decide (0 ≤ y ∧ y ≤ 999)))
  obtain ⟨q1, h1⟩ : ∃ q, decide (0 ≤ x ∧ x ≤ 99) = q := ⟨_, rfl⟩
  obtain ⟨q2, h2⟩ : ∃ q, decide (0 ≤ y ∧ y ≤ 999) = q := ⟨_, rfl⟩
  rw [h1, h2]
  have H1 := Lib.hid h1
  have H2 := Lib.hid h2
  clear h1 h2
  cases q1 <;> cases q2
  all_goals
    go_enter Try.func52, Try.ntmps52
    go_wp2_with (first | (go_at_call 64; refine (upTo_any _ _ _).mono ?_; rw [H1.out]; rintro e w' ⟨rfl, rfl⟩) | (go_at_call 64; refine (upTo_any _ _ _).mono ?_; rw [H2.out]; rintro e w' ⟨rfl, rfl⟩))
    go_ret
    exact ⟨rfl, (Below.refl _ _).alloc (Nat.le_refl _) _⟩

theorem trec_dec (n : Int) (t : Tic) : decide (trec n t) = (decide (n - 10 ≤ t.2) && decide (t.2 ≤ n)) := by
  rw [Bool.eq_iff_iff]; simp only [Bool.and_eq_true, decide_eq_true_eq]; rfl
set_option maxRecDepth 100000 in
set_option maxHeartbeats 1000000 in
theorem isrecent_any (x y n : Int) (w : World) (hn : 0 ≤ n ∧ n ≤ 999) : Calls Try.prog 55 #[.agg #[.int .i64 x, .int .i64 y], .int .i64 n] w (BoolB w (decide (trec n (x, y)))) := by
  have hw1 : IntKind.i64.wrap (n - 10) = n - 10 := IntWalk.i64_in _ (by omega)
  rw [trec_dec]
  show Calls Try.prog 55 #[.agg #[.int .i64 x, .int .i64 y], .int .i64 n] w (BoolB w (decide (n - 10 ≤ y) && decide (y ≤ n)))
  clear hn
  obtain ⟨p, hp⟩ : ∃ p, n - 10 = p := ⟨_, rfl⟩
  rw [hp] at hw1 ⊢
  obtain ⟨q1, h1⟩ : ∃ q, decide (p ≤ y) = q := ⟨_, rfl⟩
  obtain ⟨q2, h2⟩ : ∃ q, decide (y ≤ n) = q := ⟨_, rfl⟩
  rw [h1, h2]
  cases q1 <;> cases q2
  all_goals
    go_enter Try.func55, Try.ntmps55
    go_wp2_with fail
    go_ret
    exact ⟨rfl, (Below.refl _ _).alloc (Nat.le_refl _) _⟩

end Go.Proofs.Ytlhjhdlpejpooab
