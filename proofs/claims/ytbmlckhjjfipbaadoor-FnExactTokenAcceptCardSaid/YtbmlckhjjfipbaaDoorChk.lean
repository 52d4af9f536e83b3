/- Whether a token is accepted: the plain word; the contracts of checkToken and of the model's TokenAccept. -/
import Derived.Test.YtbmlckhjjfipbaaDoorTkI
import Derived.Deep.Draws
import Derived.Deep.QuietTactic
import Derived.BigQuiet
namespace Go.Proofs.YtbmlckhjjfipbaaDoor
open Go.RowKit
set_option linter.unusedVariables false
set_option linter.unusedSimpArgs false

/-- A token (address x, time y, tag z) is accepted for the secret s at the address a at the time n. -/
def tkacc (s x y z a n : Int) : Prop := tkok s a n ∧ x = a ∧ (0 ≤ y ∧ y ≤ n) ∧ n ≤ y + 20 ∧ z = tkt s a y
instance (s x y z a n : Int) : Decidable (tkacc s x y z a n) := by unfold tkacc; infer_instance
theorem below_drewN' {B : Nat} {a w : World} (h : Below B a w) (n : Nat) : Below B a (w.drewN n) := ⟨h.os, h.tape, h.output, h.size, h.block⟩
theorem tkacc_cases (s x y z a n : Int) :
    (¬ tkok s a n ∧ ¬ tkacc s x y z a n) ∨ (tkok s a n ∧ x ≠ a ∧ ¬ tkacc s x y z a n) ∨ (tkok s a n ∧ x = a ∧ ¬ (0 ≤ y ∧ y ≤ n) ∧ ¬ tkacc s x y z a n) ∨
    (tkok s a n ∧ x = a ∧ (0 ≤ y ∧ y ≤ n) ∧ ¬ n ≤ y + 20 ∧ ¬ tkacc s x y z a n) ∨ (tkok s a n ∧ x = a ∧ (0 ≤ y ∧ y ≤ n) ∧ n ≤ y + 20 ∧ z ≠ tkt s a y ∧ ¬ tkacc s x y z a n) ∨
    (tkok s a n ∧ x = a ∧ (0 ≤ y ∧ y ≤ n) ∧ n ≤ y + 20 ∧ z = tkt s a y ∧ tkacc s x y z a n) := by
  by_cases h1 : tkok s a n
  · by_cases h2 : x = a
    · by_cases h3 : 0 ≤ y ∧ y ≤ n
      · by_cases h4 : n ≤ y + 20
        · by_cases h5 : z = tkt s a y
          · exact .inr (.inr (.inr (.inr (.inr ⟨h1, h2, h3, h4, h5, h1, h2, h3, h4, h5⟩))))
          · exact .inr (.inr (.inr (.inr (.inl ⟨h1, h2, h3, h4, h5, fun k => h5 k.2.2.2.2⟩))))
        · exact .inr (.inr (.inr (.inl ⟨h1, h2, h3, h4, fun k => h4 k.2.2.2.1⟩)))
      · exact .inr (.inr (.inl ⟨h1, h2, h3, fun k => h3 k.2.2.1⟩))
    · exact .inr (.inl ⟨h1, h2, fun k => h2 k.2.1⟩)
  · exact .inl ⟨h1, fun k => h1 k.1⟩
theorem quiet_of {f : FuncId} {args : Array Value} {v : Value} {W : World} {n : Nat} (h : Calls Tryd.prog f args (W.drewN n) fun e w' => e = .returned v ∧ W.drewN n = w') : Calls Tryd.prog f args (W.drewN n) fun e w' => e = .returned v ∧ ∃ m, w' = W.drewN m :=
  h.mono fun e w' k => ⟨k.1, n, k.2.symm⟩

set_option maxRecDepth 100000 in
set_option maxHeartbeats 2000000 in
theorem sacc_any (s x y z a n : Int) (w : World) : Calls Tryd.prog 13 #[.int .i64 s, .agg #[.int .i64 x, .int .i64 y, .int .i64 z], .int .i64 a, .int .i64 n] w fun e w' => e = .returned (.bool (decide (tkacc s x y z a n))) ∧ Below w.heap.size w w' := by
  rcases tkacc_cases s x y z a n with ⟨h1, h⟩ | ⟨h1, h2, h⟩ | ⟨h1, h2, h3, h⟩ | ⟨h1, h2, h3, h4, h⟩ | ⟨h1, h2, h3, h4, h5, h⟩ | ⟨h1, h2, h3, h4, h5, h⟩
  · have HR := Lib.hid (decide_eq_false h)
    have HQ1 : Hid (∀ (W : World) (k : Nat), Calls Tryd.prog 20 #[.int .i64 s, .int .i64 a, .int .i64 n] (W.drewN k) fun e w' => e = .returned (.bool false) ∧ ∃ m, w' = W.drewN m) := Lib.hid fun W k => by have hq := quiet_of (sargs_any s a n (W.drewN k)); rw [decide_eq_false h1] at hq; exact hq
    clear h h1
    go_enter Tryd.func13, Tryd.ntmps13
    go_wp2_with fail
    go_quiet ((go_at_call 20; exact HQ1.out _ _))
    go_wp2_with fail
    go_ret
    exact ⟨ret_bool HR.out.symm, below_drewN' ((Below.refl _ _).alloc (Nat.le_refl _) _) _⟩
  · have HR := Lib.hid (decide_eq_false h)
    have HQ1 : Hid (∀ (W : World) (k : Nat), Calls Tryd.prog 20 #[.int .i64 s, .int .i64 a, .int .i64 n] (W.drewN k) fun e w' => e = .returned (.bool true) ∧ ∃ m, w' = W.drewN m) := Lib.hid fun W k => by have hq := quiet_of (sargs_any s a n (W.drewN k)); rw [decide_eq_true h1] at hq; exact hq
    have b2 : (x == a) = false := by rw [beq_eq_false_iff_ne]; exact h2
    clear h h1 h2
    go_enter Tryd.func13, Tryd.ntmps13
    go_wp2_with fail
    go_quiet ((go_at_call 20; exact HQ1.out _ _))
    go_wp2_with fail
    go_ret
    exact ⟨ret_bool HR.out.symm, below_drewN' ((Below.refl _ _).alloc (Nat.le_refl _) _) _⟩
  · have HR := Lib.hid (decide_eq_false h)
    have HQ1 : Hid (∀ (W : World) (k : Nat), Calls Tryd.prog 20 #[.int .i64 s, .int .i64 a, .int .i64 n] (W.drewN k) fun e w' => e = .returned (.bool true) ∧ ∃ m, w' = W.drewN m) := Lib.hid fun W k => by have hq := quiet_of (sargs_any s a n (W.drewN k)); rw [decide_eq_true h1] at hq; exact hq
    subst h2
    have HQ2 : Hid (∀ (W : World) (k : Nat), Calls Tryd.prog 24 #[.int .i64 y, .int .i64 0, .int .i64 n] (W.drewN k) fun e w' => e = .returned (.bool false) ∧ ∃ m, w' = W.drewN m) := Lib.hid fun W k => by have hq := quiet_of (l6In_any y 0 n (W.drewN k)); rw [decide_eq_false h3] at hq; exact hq
    clear h h1 h3
    go_enter Tryd.func13, Tryd.ntmps13
    go_wp2_with fail
    go_quiet (first | (go_at_call 20; exact HQ1.out _ _) | (go_at_call 24; exact HQ2.out _ _))
    go_wp2_with fail
    go_ret
    exact ⟨ret_bool HR.out.symm, below_drewN' ((Below.refl _ _).alloc (Nat.le_refl _) _) _⟩
  · have HR := Lib.hid (decide_eq_false h)
    have HQ1 : Hid (∀ (W : World) (k : Nat), Calls Tryd.prog 20 #[.int .i64 s, .int .i64 a, .int .i64 n] (W.drewN k) fun e w' => e = .returned (.bool true) ∧ ∃ m, w' = W.drewN m) := Lib.hid fun W k => by have hq := quiet_of (sargs_any s a n (W.drewN k)); rw [decide_eq_true h1] at hq; exact hq
    subst h2
    have HQ2 : Hid (∀ (W : World) (k : Nat), Calls Tryd.prog 24 #[.int .i64 y, .int .i64 0, .int .i64 n] (W.drewN k) fun e w' => e = .returned (.bool true) ∧ ∃ m, w' = W.drewN m) := Lib.hid fun W k => by have hq := quiet_of (l6In_any y 0 n (W.drewN k)); rw [decide_eq_true h3] at hq; exact hq
    have hn9 : n ≤ 999 := h1.2.2.2
    have hn0 : 0 ≤ n := h1.2.2.1
    have d4 : decide (n ≤ y + 20) = false := decide_eq_false h4
    obtain ⟨hy0, hy9⟩ := id h3
    clear h h1 h3 h4
    go_enter Tryd.func13, Tryd.ntmps13
    go_wp2_with fail
    go_quiet (first | (go_at_call 20; exact HQ1.out _ _) | (go_at_call 24; exact HQ2.out _ _))
    go_wp2_with fail
    go_ret
    exact ⟨ret_bool HR.out.symm, below_drewN' ((Below.refl _ _).alloc (Nat.le_refl _) _) _⟩
  · have HR := Lib.hid (decide_eq_false h)
    have HQ1 : Hid (∀ (W : World) (k : Nat), Calls Tryd.prog 20 #[.int .i64 s, .int .i64 a, .int .i64 n] (W.drewN k) fun e w' => e = .returned (.bool true) ∧ ∃ m, w' = W.drewN m) := Lib.hid fun W k => by have hq := quiet_of (sargs_any s a n (W.drewN k)); rw [decide_eq_true h1] at hq; exact hq
    subst h2
    have HQ2 : Hid (∀ (W : World) (k : Nat), Calls Tryd.prog 24 #[.int .i64 y, .int .i64 0, .int .i64 n] (W.drewN k) fun e w' => e = .returned (.bool true) ∧ ∃ m, w' = W.drewN m) := Lib.hid fun W k => by have hq := quiet_of (l6In_any y 0 n (W.drewN k)); rw [decide_eq_true h3] at hq; exact hq
    have hn9 : n ≤ 999 := h1.2.2.2
    have hn0 : 0 ≤ n := h1.2.2.1
    have d4 : decide (n ≤ y + 20) = true := decide_eq_true h4
    obtain ⟨hy0, hy9⟩ := id h3
    have HQ3 : Hid (∀ (W : World) (k : Nat), Calls Tryd.prog 21 #[.int .i64 s, .int .i64 x, .int .i64 y] (W.drewN k) fun e w' => e = .returned (.int .i64 (tkt s x y)) ∧ ∃ m, w' = W.drewN m) := Lib.hid fun W k => quiet_of (stag_any s x y (W.drewN k) ⟨h1.1, h1.2.1, by omega⟩)
    have b5 : (z == tkt s x y) = false := by rw [beq_eq_false_iff_ne]; exact h5
    clear h h1 h3 h4 h5
    go_enter Tryd.func13, Tryd.ntmps13
    go_wp2_with fail
    go_quiet (first | (go_at_call 20; exact HQ1.out _ _) | (go_at_call 24; exact HQ2.out _ _) | (go_at_call 21; exact HQ3.out _ _))
    go_wp2_with fail
    go_ret
    exact ⟨ret_bool HR.out.symm, below_drewN' ((Below.refl _ _).alloc (Nat.le_refl _) _) _⟩
  · have HR := Lib.hid (decide_eq_true h)
    have HQ1 : Hid (∀ (W : World) (k : Nat), Calls Tryd.prog 20 #[.int .i64 s, .int .i64 a, .int .i64 n] (W.drewN k) fun e w' => e = .returned (.bool true) ∧ ∃ m, w' = W.drewN m) := Lib.hid fun W k => by have hq := quiet_of (sargs_any s a n (W.drewN k)); rw [decide_eq_true h1] at hq; exact hq
    subst h2
    have HQ2 : Hid (∀ (W : World) (k : Nat), Calls Tryd.prog 24 #[.int .i64 y, .int .i64 0, .int .i64 n] (W.drewN k) fun e w' => e = .returned (.bool true) ∧ ∃ m, w' = W.drewN m) := Lib.hid fun W k => by have hq := quiet_of (l6In_any y 0 n (W.drewN k)); rw [decide_eq_true h3] at hq; exact hq
    have hn9 : n ≤ 999 := h1.2.2.2
    have hn0 : 0 ≤ n := h1.2.2.1
    have d4 : decide (n ≤ y + 20) = true := decide_eq_true h4
    obtain ⟨hy0, hy9⟩ := id h3
    have HQ3 : Hid (∀ (W : World) (k : Nat), Calls Tryd.prog 21 #[.int .i64 s, .int .i64 x, .int .i64 y] (W.drewN k) fun e w' => e = .returned (.int .i64 (tkt s x y)) ∧ ∃ m, w' = W.drewN m) := Lib.hid fun W k => quiet_of (stag_any s x y (W.drewN k) ⟨h1.1, h1.2.1, by omega⟩)
    have b5 : (z == tkt s x y) = true := by rw [beq_iff_eq]; exact h5
    clear h h1 h3 h4 h5
    go_enter Tryd.func13, Tryd.ntmps13
    go_wp2_with fail
    go_quiet (first | (go_at_call 20; exact HQ1.out _ _) | (go_at_call 24; exact HQ2.out _ _) | (go_at_call 21; exact HQ3.out _ _))
    go_wp2_with fail
    go_ret
    exact ⟨ret_bool HR.out.symm, below_drewN' ((Below.refl _ _).alloc (Nat.le_refl _) _) _⟩

end Go.Proofs.YtbmlckhjjfipbaaDoor
