/- checkToken: nil, or a rejection; the program's TokenAccept. -/
import Derived.Test.YtbmlckhjjfipbaaDoorChk
import Derived.Test.YtbmlckhjjfipbaaDoorErr
import Derived.Deep.RegionHeld3
namespace Go.Proofs.YtbmlckhjjfipbaaDoor
open Go.RowKit
set_option linter.unusedVariables false
set_option linter.unusedSimpArgs false

def Chked (p : Prop) (w : World) (e : Ending) (w' : World) : Prop :=
  ∃ v : Value, e = .returned v ∧ ((p ∧ v = .nilIface) ∨ (¬ p ∧ ∃ r : ByteArray, v = .iface 56 (.string r))) ∧ Below w.heap.size w w'

set_option maxRecDepth 100000 in
set_option maxHeartbeats 2000000 in
theorem check_any (s x y z a n : Int) (w : World) : Calls Tryd.prog 23 #[.int .i64 s, .agg #[.int .i64 x, .int .i64 y, .int .i64 z], .int .i64 a, .int .i64 n] w (Chked (tkacc s x y z a n) w) := by
  rcases tkacc_cases s x y z a n with ⟨h1, h⟩ | ⟨h1, h2, h⟩ | ⟨h1, h2, h3, h⟩ | ⟨h1, h2, h3, h4, h⟩ | ⟨h1, h2, h3, h4, h5, h⟩ | ⟨h1, h2, h3, h4, h5, h⟩
  · have HR := Lib.hid h
    have HD := Lib.hid (decide_eq_false h1)
    clear h h1
    go_enter Tryd.func23, Tryd.ntmps23
    go_wp2_with fail
    refine (canissue_any s a n _).mono ?_
    rw [HD.out]
    rintro e w' ⟨rfl, rfl⟩
    go_wp2_with fail
    go_ret
    exact ⟨_, rfl, .inr ⟨HR.out, _, rfl⟩, ((Below.refl _ _).alloc (Nat.le_refl _) _)⟩
  · have HR := Lib.hid h
    have HD := Lib.hid (decide_eq_true h1)
    have b2 : (x != a) = true := by rw [bne_iff_ne]; exact h2
    by_cases hy : y < 0
    · have d0 : decide (y < 0) = true := decide_eq_true hy
      clear h h1 h2
      go_enter Tryd.func23, Tryd.ntmps23
      go_wp2_with fail
      refine (canissue_any s a n _).mono ?_
      rw [HD.out]
      rintro e w' ⟨rfl, rfl⟩
      go_wp2_with fail
      go_ret
      exact ⟨_, rfl, .inr ⟨HR.out, _, rfl⟩, ((Below.refl _ _).alloc (Nat.le_refl _) _)⟩
    · have d0 : decide (y < 0) = false := decide_eq_false hy
      clear h h1 h2
      go_enter Tryd.func23, Tryd.ntmps23
      go_wp2_with fail
      refine (canissue_any s a n _).mono ?_
      rw [HD.out]
      rintro e w' ⟨rfl, rfl⟩
      go_wp2_with fail
      go_ret
      exact ⟨_, rfl, .inr ⟨HR.out, _, rfl⟩, ((Below.refl _ _).alloc (Nat.le_refl _) _)⟩
  · have HR := Lib.hid h
    have HD := Lib.hid (decide_eq_true h1)
    subst h2
    have b2 : (x != x) = false := by rw [bne_eq_false_iff_eq]
    by_cases hy : y < 0
    · have d0 : decide (y < 0) = true := decide_eq_true hy
      clear h h1 h3
      go_enter Tryd.func23, Tryd.ntmps23
      go_wp2_with fail
      refine (canissue_any s x n _).mono ?_
      rw [HD.out]
      rintro e w' ⟨rfl, rfl⟩
      go_wp2_with fail
      go_ret
      exact ⟨_, rfl, .inr ⟨HR.out, _, rfl⟩, ((Below.refl _ _).alloc (Nat.le_refl _) _)⟩
    · have d0 : decide (y < 0) = false := decide_eq_false hy
      have c1 : n < y := by omega
      have d1 : decide (n < y) = true := decide_eq_true c1
      clear h h1 h3
      go_enter Tryd.func23, Tryd.ntmps23
      go_wp2_with fail
      refine (canissue_any s x n _).mono ?_
      rw [HD.out]
      rintro e w' ⟨rfl, rfl⟩
      go_wp2_with fail
      go_ret
      exact ⟨_, rfl, .inr ⟨HR.out, _, rfl⟩, ((Below.refl _ _).alloc (Nat.le_refl _) _)⟩
  · have HR := Lib.hid h
    have HD := Lib.hid (decide_eq_true h1)
    subst h2
    have b2 : (x != x) = false := by rw [bne_eq_false_iff_eq]
    have hn9 : n ≤ 999 := h1.2.2.2
    have hn0 : 0 ≤ n := h1.2.2.1
    obtain ⟨hy0, hy9⟩ := id h3
    have d0 : decide (y < 0) = false := decide_eq_false (by omega)
    have d1 : decide (n < y) = false := decide_eq_false (by omega)
    have d2 : decide (20 < n - y) = true := decide_eq_true (by omega)
    have c0 : ¬ y < 0 := by omega
    have c1 : ¬ n < y := by omega
    have c2 :  20 < n - y := by omega
    clear h h1 h3 h4
    go_enter Tryd.func23, Tryd.ntmps23
    go_wp2_with fail
    refine (canissue_any s x n _).mono ?_
    rw [HD.out]
    rintro e w' ⟨rfl, rfl⟩
    go_wp2_with fail
    go_ret
    exact ⟨_, rfl, .inr ⟨HR.out, _, rfl⟩, ((Below.refl _ _).alloc (Nat.le_refl _) _)⟩
  · have HR := Lib.hid h
    have HD := Lib.hid (decide_eq_true h1)
    subst h2
    have b2 : (x != x) = false := by rw [bne_eq_false_iff_eq]
    have hn9 : n ≤ 999 := h1.2.2.2
    have hn0 : 0 ≤ n := h1.2.2.1
    obtain ⟨hy0, hy9⟩ := id h3
    have d0 : decide (y < 0) = false := decide_eq_false (by omega)
    have d1 : decide (n < y) = false := decide_eq_false (by omega)
    have d2 : decide (20 < n - y) = false := decide_eq_false (by omega)
    have c0 : ¬ y < 0 := by omega
    have c1 : ¬ n < y := by omega
    have c2 : ¬ 20 < n - y := by omega
    have HQ3 : Hid (∀ (W : World) (k : Nat), Calls Tryd.prog 19 #[.int .i64 s, .int .i64 x, .int .i64 y] (W.drewN k) fun e w' => e = .returned (.int .i64 (tkt s x y)) ∧ ∃ m, w' = W.drewN m) := Lib.hid fun W k => quiet_of (itag_any s x y (W.drewN k) ⟨h1.1, h1.2.1, by omega⟩)
    have b5 : (z != tkt s x y) = true := by rw [bne_iff_ne]; exact h5
    clear h h1 h3 h4 h5
    go_enter Tryd.func23, Tryd.ntmps23
    go_wp2_with fail
    refine (canissue_any s x n _).mono ?_
    rw [HD.out]
    rintro e w' ⟨rfl, rfl⟩
    go_wp2_with fail
    go_quiet ((go_at_call 19; exact HQ3.out _ _))
    go_wp2_with fail
    go_ret
    exact ⟨_, rfl, .inr ⟨HR.out, _, rfl⟩, (below_drewN' ((Below.refl _ _).alloc (Nat.le_refl _) _) _)⟩
  · have HR := Lib.hid h
    have HD := Lib.hid (decide_eq_true h1)
    subst h2
    have b2 : (x != x) = false := by rw [bne_eq_false_iff_eq]
    have hn9 : n ≤ 999 := h1.2.2.2
    have hn0 : 0 ≤ n := h1.2.2.1
    obtain ⟨hy0, hy9⟩ := id h3
    have d0 : decide (y < 0) = false := decide_eq_false (by omega)
    have d1 : decide (n < y) = false := decide_eq_false (by omega)
    have d2 : decide (20 < n - y) = false := decide_eq_false (by omega)
    have c0 : ¬ y < 0 := by omega
    have c1 : ¬ n < y := by omega
    have c2 : ¬ 20 < n - y := by omega
    have HQ3 : Hid (∀ (W : World) (k : Nat), Calls Tryd.prog 19 #[.int .i64 s, .int .i64 x, .int .i64 y] (W.drewN k) fun e w' => e = .returned (.int .i64 (tkt s x y)) ∧ ∃ m, w' = W.drewN m) := Lib.hid fun W k => quiet_of (itag_any s x y (W.drewN k) ⟨h1.1, h1.2.1, by omega⟩)
    have b5 : (z != tkt s x y) = false := by rw [bne_eq_false_iff_eq]; exact h5
    clear h h1 h3 h4 h5
    go_enter Tryd.func23, Tryd.ntmps23
    go_wp2_with fail
    refine (canissue_any s x n _).mono ?_
    rw [HD.out]
    rintro e w' ⟨rfl, rfl⟩
    go_wp2_with fail
    go_quiet ((go_at_call 19; exact HQ3.out _ _))
    go_wp2_with fail
    go_ret
    exact ⟨_, rfl, .inl ⟨HR.out, rfl⟩, (below_drewN' ((Below.refl _ _).alloc (Nat.le_refl _) _) _)⟩

end Go.Proofs.YtbmlckhjjfipbaaDoor
