/- The contracts of SendAllowance, the program's and the model's. -/
import Derived.Test.YtbmlckhjjfipbabTkMath
import Derived.Test.YtbmlckhjjfipbabUp
namespace Go.Proofs.Ytbmlckhjjfipbab
open Go.RowKit
set_option linter.unusedVariables false
set_option linter.unusedSimpArgs false

set_option maxRecDepth 100000 in
set_option maxHeartbeats 1000000 in
theorem iallow_any (r s : Int) (v : Bool) (w : World) : Calls Try.prog 5 #[.int .i64 r, .int .i64 s, .bool v] w fun e w' => e = .returned (.int .i64 (allow r s v)) ∧ w = w' := by
  obtain ⟨q1, h1⟩ : ∃ q, decide (0 ≤ r ∧ r ≤ 9999) = q := ⟨_, rfl⟩
  obtain ⟨q2, h2⟩ : ∃ q, decide (0 ≤ s ∧ s ≤ 9999) = q := ⟨_, rfl⟩
  have H1 := Lib.hid h1
  have H2 := Lib.hid h2
  cases q1
  · have HV := Lib.hid (allow_no (r := r) (s := s) (v := v) (by simp at h1; omega))
    clear h1 h2
    go_enter Try.func5, Try.ntmps5
    go_wp2_with (first | (go_at_call 7; refine (upTo_any _ _ _).mono ?_; rw [H1.out]; rintro e w' ⟨rfl, rfl⟩) | (go_at_call 7; refine (upTo_any _ _ _).mono ?_; rw [H2.out]; rintro e w' ⟨rfl, rfl⟩))
    go_ret
    exact ⟨ret_int HV.out.symm, rfl⟩
  cases q2
  · have HV := Lib.hid (allow_no (r := r) (s := s) (v := v) (by simp at h2; omega))
    clear h1 h2
    go_enter Try.func5, Try.ntmps5
    go_wp2_with (first | (go_at_call 7; refine (upTo_any _ _ _).mono ?_; rw [H1.out]; rintro e w' ⟨rfl, rfl⟩) | (go_at_call 7; refine (upTo_any _ _ _).mono ?_; rw [H2.out]; rintro e w' ⟨rfl, rfl⟩))
    go_ret
    exact ⟨ret_int HV.out.symm, rfl⟩
  have hk : (0 ≤ r ∧ r ≤ 9999) ∧ (0 ≤ s ∧ s ≤ 9999) := ⟨of_decide_eq_true h1, of_decide_eq_true h2⟩
  obtain ⟨⟨k1, k2⟩, k3, k4⟩ := id hk
  clear h1 h2
  cases v
  · have HV := Lib.hid (allow_not hk)
    clear hk
    by_cases c1 : 3 * r - s < 0
    · have HW := Lib.hid (show min (max (3 * r - s) 0) (9999 - s) = 0 by omega)
      have c1' : (3 * r - s < 0) = True := eq_true c1
      have c2 : (9999 - s < 0) = False := eq_false (by omega)
      go_enter Try.func5, Try.ntmps5
      go_wp2_with (first | (go_at_call 7; refine (upTo_any _ _ _).mono ?_; rw [H1.out]; rintro e w' ⟨rfl, rfl⟩) | (go_at_call 7; refine (upTo_any _ _ _).mono ?_; rw [H2.out]; rintro e w' ⟨rfl, rfl⟩))
      go_ret
      exact ⟨ret_int (by rw [HV.out, HW.out]), rfl⟩
    · have c1' : (3 * r - s < 0) = False := eq_false c1
      by_cases c2 : 9999 - s < 3 * r - s
      · have HW := Lib.hid (show min (max (3 * r - s) 0) (9999 - s) = 9999 - s by omega)
        have c2' : (9999 - s < 3 * r - s) = True := eq_true c2
        go_enter Try.func5, Try.ntmps5
        go_wp2_with (first | (go_at_call 7; refine (upTo_any _ _ _).mono ?_; rw [H1.out]; rintro e w' ⟨rfl, rfl⟩) | (go_at_call 7; refine (upTo_any _ _ _).mono ?_; rw [H2.out]; rintro e w' ⟨rfl, rfl⟩))
        go_ret
        exact ⟨ret_int (by rw [HV.out, HW.out]), rfl⟩
      · have HW := Lib.hid (show min (max (3 * r - s) 0) (9999 - s) = 3 * r - s by omega)
        have c2' : (9999 - s < 3 * r - s) = False := eq_false c2
        go_enter Try.func5, Try.ntmps5
        go_wp2_with (first | (go_at_call 7; refine (upTo_any _ _ _).mono ?_; rw [H1.out]; rintro e w' ⟨rfl, rfl⟩) | (go_at_call 7; refine (upTo_any _ _ _).mono ?_; rw [H2.out]; rintro e w' ⟨rfl, rfl⟩))
        go_ret
        exact ⟨ret_int (by rw [HV.out, HW.out]), rfl⟩
  · have HV := Lib.hid (allow_yes hk)
    clear hk
    go_enter Try.func5, Try.ntmps5
    go_wp2_with (first | (go_at_call 7; refine (upTo_any _ _ _).mono ?_; rw [H1.out]; rintro e w' ⟨rfl, rfl⟩) | (go_at_call 7; refine (upTo_any _ _ _).mono ?_; rw [H2.out]; rintro e w' ⟨rfl, rfl⟩))
    go_ret
    exact ⟨ret_int HV.out.symm, rfl⟩

set_option maxRecDepth 100000 in
set_option maxHeartbeats 1000000 in
theorem sallow_any (r s : Int) (v : Bool) (w : World) : Calls Try.prog 4 #[.int .i64 r, .int .i64 s, .bool v] w fun e w' => e = .returned (.int .i64 (allow r s v)) ∧ w = w' := by
  obtain ⟨q1, h1⟩ : ∃ q, decide (0 ≤ r ∧ r ≤ 9999) = q := ⟨_, rfl⟩
  obtain ⟨q2, h2⟩ : ∃ q, decide (0 ≤ s ∧ s ≤ 9999) = q := ⟨_, rfl⟩
  have H1 := Lib.hid h1
  have H2 := Lib.hid h2
  cases q1
  · have HV := Lib.hid (allow_no (r := r) (s := s) (v := v) (by simp at h1; omega))
    clear h1 h2
    go_enter Try.func4, Try.ntmps4
    go_wp2_with (first | (go_at_call 6; refine (l6In_any _ _ _ _).mono ?_; rw [H1.out]; rintro e w' ⟨rfl, rfl⟩) | (go_at_call 6; refine (l6In_any _ _ _ _).mono ?_; rw [H2.out]; rintro e w' ⟨rfl, rfl⟩))
    go_ret
    exact ⟨ret_int HV.out.symm, rfl⟩
  cases q2
  · have HV := Lib.hid (allow_no (r := r) (s := s) (v := v) (by simp at h2; omega))
    clear h1 h2
    go_enter Try.func4, Try.ntmps4
    go_wp2_with (first | (go_at_call 6; refine (l6In_any _ _ _ _).mono ?_; rw [H1.out]; rintro e w' ⟨rfl, rfl⟩) | (go_at_call 6; refine (l6In_any _ _ _ _).mono ?_; rw [H2.out]; rintro e w' ⟨rfl, rfl⟩))
    go_ret
    exact ⟨ret_int HV.out.symm, rfl⟩
  have hk : (0 ≤ r ∧ r ≤ 9999) ∧ (0 ≤ s ∧ s ≤ 9999) := ⟨of_decide_eq_true h1, of_decide_eq_true h2⟩
  obtain ⟨⟨k1, k2⟩, k3, k4⟩ := id hk
  clear h1 h2
  cases v
  · have HV := Lib.hid (allow_not hk)
    clear hk
    by_cases c1 : 3 * r - s < 0
    · have HW := Lib.hid (show min (max (3 * r - s) 0) (9999 - s) = 0 by omega)
      have c1' : (3 * r - s < 0) = True := eq_true c1
      have c2 : (9999 - s < 0) = False := eq_false (by omega)
      go_enter Try.func4, Try.ntmps4
      go_wp2_with (first | (go_at_call 6; refine (l6In_any _ _ _ _).mono ?_; rw [H1.out]; rintro e w' ⟨rfl, rfl⟩) | (go_at_call 6; refine (l6In_any _ _ _ _).mono ?_; rw [H2.out]; rintro e w' ⟨rfl, rfl⟩))
      go_ret
      exact ⟨ret_int (by rw [HV.out, HW.out]), rfl⟩
    · have c1' : (3 * r - s < 0) = False := eq_false c1
      by_cases c2 : 9999 - s < 3 * r - s
      · have HW := Lib.hid (show min (max (3 * r - s) 0) (9999 - s) = 9999 - s by omega)
        have c2' : (9999 - s < 3 * r - s) = True := eq_true c2
        go_enter Try.func4, Try.ntmps4
        go_wp2_with (first | (go_at_call 6; refine (l6In_any _ _ _ _).mono ?_; rw [H1.out]; rintro e w' ⟨rfl, rfl⟩) | (go_at_call 6; refine (l6In_any _ _ _ _).mono ?_; rw [H2.out]; rintro e w' ⟨rfl, rfl⟩))
        go_ret
        exact ⟨ret_int (by rw [HV.out, HW.out]), rfl⟩
      · have HW := Lib.hid (show min (max (3 * r - s) 0) (9999 - s) = 3 * r - s by omega)
        have c2' : (9999 - s < 3 * r - s) = False := eq_false c2
        go_enter Try.func4, Try.ntmps4
        go_wp2_with (first | (go_at_call 6; refine (l6In_any _ _ _ _).mono ?_; rw [H1.out]; rintro e w' ⟨rfl, rfl⟩) | (go_at_call 6; refine (l6In_any _ _ _ _).mono ?_; rw [H2.out]; rintro e w' ⟨rfl, rfl⟩))
        go_ret
        exact ⟨ret_int (by rw [HV.out, HW.out]), rfl⟩
  · have HV := Lib.hid (allow_yes hk)
    clear hk
    go_enter Try.func4, Try.ntmps4
    go_wp2_with (first | (go_at_call 6; refine (l6In_any _ _ _ _).mono ?_; rw [H1.out]; rintro e w' ⟨rfl, rfl⟩) | (go_at_call 6; refine (l6In_any _ _ _ _).mono ?_; rw [H2.out]; rintro e w' ⟨rfl, rfl⟩))
    go_ret
    exact ⟨ret_int HV.out.symm, rfl⟩


end Go.Proofs.Ytbmlckhjjfipbab
