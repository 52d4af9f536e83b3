/- Whether there is a token; TokenMake: the contracts, the program's and the model's. -/
import Derived.Test.YtbmlckhjjfipbaaTkTag
import Derived.Laws.ResultCell
namespace Go.Proofs.Ytbmlckhjjfipbaa
open Go.RowKit
set_option linter.unusedVariables false
set_option linter.unusedSimpArgs false

theorem tkok_i (s a t : Int) : decide (tkok s a t) = (decide (0 ≤ s ∧ s ≤ 96) && (decide (1 ≤ a) && (decide (0 ≤ a ∧ a ≤ 99) && decide (0 ≤ t ∧ t ≤ 999)))) := by
  rw [Bool.eq_iff_iff]; simp only [Bool.and_eq_true, decide_eq_true_eq]; unfold tkok; omega
theorem tkok_s (s a t : Int) : decide (tkok s a t) = (decide (0 ≤ s ∧ s ≤ 96) && (decide (1 ≤ a ∧ a ≤ 99) && decide (0 ≤ t ∧ t ≤ 999))) := by
  rw [Bool.eq_iff_iff]; simp only [Bool.and_eq_true, decide_eq_true_eq]; unfold tkok; omega

set_option maxRecDepth 100000 in
set_option maxHeartbeats 1000000 in
theorem upTo_any (n l : Int) (w : World) : Calls Try.prog 24 #[.int .i64 n, .int .i64 l] w fun e w' => e = .returned (.bool (decide (0 ≤ n ∧ n ≤ l))) ∧ w = w' := by
  by_cases h0 : 0 ≤ n
  · by_cases h1 : n ≤ l
    · have d0 := decide_eq_true h0
      have d1 := decide_eq_true h1
      go_enter Try.func24, Try.ntmps24
      go_wp2
      go_ret
      exact ⟨ret_bool (decide_eq_true ⟨h0, h1⟩).symm, rfl⟩
    · have d0 := decide_eq_true h0
      have d1 := decide_eq_false h1
      go_enter Try.func24, Try.ntmps24
      go_wp2
      go_ret
      exact ⟨rfl, rfl⟩
  · have d0 := decide_eq_false h0
    go_enter Try.func24, Try.ntmps24
    go_wp2
    go_ret
    exact ⟨rfl, rfl⟩
set_option maxRecDepth 100000 in
set_option maxHeartbeats 400000 in
theorem l6In_any (n a b : Int) (w : World) : Calls Try.prog 25 #[.int .i64 n, .int .i64 a, .int .i64 b] w fun e w' => e = .returned (.bool (decide (a ≤ n ∧ n ≤ b))) ∧ w = w' := by
  by_cases h1 : n < a
  · go_enter Try.func25, Try.ntmps25
    go_wp2
    all_goals
      go_ret
      exact ⟨ret_bool (by first | (simp; done) | (simp; omega)), rfl⟩
  · by_cases h2 : b < n
    all_goals
      go_enter Try.func25, Try.ntmps25
      go_wp2
      all_goals
        go_ret
        exact ⟨ret_bool (by first | (simp; done) | (simp; omega)), rfl⟩

set_option maxRecDepth 100000 in
set_option maxHeartbeats 1000000 in
theorem canissue_any (s a t : Int) (w : World) : Calls Try.prog 20 #[.int .i64 s, .int .i64 a, .int .i64 t] w fun e w' => e = .returned (.bool (decide (tkok s a t))) ∧ w = w' := by
  rw [tkok_i]
  obtain ⟨q1, h1⟩ : ∃ q, decide (0 ≤ s ∧ s ≤ 96) = q := ⟨_, rfl⟩
  obtain ⟨q2, h2⟩ : ∃ q, decide (1 ≤ a) = q := ⟨_, rfl⟩
  obtain ⟨q3, h3⟩ : ∃ q, decide (0 ≤ a ∧ a ≤ 99) = q := ⟨_, rfl⟩
  obtain ⟨q4, h4⟩ : ∃ q, decide (0 ≤ t ∧ t ≤ 999) = q := ⟨_, rfl⟩
  rw [h1, h2, h3, h4]
  have H1 := Lib.hid h1
  have H3 := Lib.hid h3
  have H4 := Lib.hid h4
  clear h1 h3 h4
  cases q1
  ·
    go_enter Try.func20, Try.ntmps20
    go_wp2_with (first | (go_at_call 24; refine (upTo_any _ _ _).mono ?_; rw [H1.out]; rintro e w' ⟨rfl, rfl⟩) | (go_at_call 24; refine (upTo_any _ _ _).mono ?_; rw [H3.out]; rintro e w' ⟨rfl, rfl⟩) | (go_at_call 24; refine (upTo_any _ _ _).mono ?_; rw [H4.out]; rintro e w' ⟨rfl, rfl⟩))
    go_ret
    exact ⟨rfl, rfl⟩
  cases q2
  ·
    go_enter Try.func20, Try.ntmps20
    go_wp2_with (first | (go_at_call 24; refine (upTo_any _ _ _).mono ?_; rw [H1.out]; rintro e w' ⟨rfl, rfl⟩) | (go_at_call 24; refine (upTo_any _ _ _).mono ?_; rw [H3.out]; rintro e w' ⟨rfl, rfl⟩) | (go_at_call 24; refine (upTo_any _ _ _).mono ?_; rw [H4.out]; rintro e w' ⟨rfl, rfl⟩))
    go_ret
    exact ⟨rfl, rfl⟩
  cases q3
  ·
    go_enter Try.func20, Try.ntmps20
    go_wp2_with (first | (go_at_call 24; refine (upTo_any _ _ _).mono ?_; rw [H1.out]; rintro e w' ⟨rfl, rfl⟩) | (go_at_call 24; refine (upTo_any _ _ _).mono ?_; rw [H3.out]; rintro e w' ⟨rfl, rfl⟩) | (go_at_call 24; refine (upTo_any _ _ _).mono ?_; rw [H4.out]; rintro e w' ⟨rfl, rfl⟩))
    go_ret
    exact ⟨rfl, rfl⟩
  cases q4
  ·
    go_enter Try.func20, Try.ntmps20
    go_wp2_with (first | (go_at_call 24; refine (upTo_any _ _ _).mono ?_; rw [H1.out]; rintro e w' ⟨rfl, rfl⟩) | (go_at_call 24; refine (upTo_any _ _ _).mono ?_; rw [H3.out]; rintro e w' ⟨rfl, rfl⟩) | (go_at_call 24; refine (upTo_any _ _ _).mono ?_; rw [H4.out]; rintro e w' ⟨rfl, rfl⟩))
    go_ret
    exact ⟨rfl, rfl⟩
  ·
    go_enter Try.func20, Try.ntmps20
    go_wp2_with (first | (go_at_call 24; refine (upTo_any _ _ _).mono ?_; rw [H1.out]; rintro e w' ⟨rfl, rfl⟩) | (go_at_call 24; refine (upTo_any _ _ _).mono ?_; rw [H3.out]; rintro e w' ⟨rfl, rfl⟩) | (go_at_call 24; refine (upTo_any _ _ _).mono ?_; rw [H4.out]; rintro e w' ⟨rfl, rfl⟩))
    go_ret
    exact ⟨rfl, rfl⟩

set_option maxRecDepth 100000 in
set_option maxHeartbeats 1000000 in
theorem sargs_any (s a t : Int) (w : World) : Calls Try.prog 22 #[.int .i64 s, .int .i64 a, .int .i64 t] w fun e w' => e = .returned (.bool (decide (tkok s a t))) ∧ w = w' := by
  rw [tkok_s]
  obtain ⟨q1, h1⟩ : ∃ q, decide (0 ≤ s ∧ s ≤ 96) = q := ⟨_, rfl⟩
  obtain ⟨q3, h3⟩ : ∃ q, decide (1 ≤ a ∧ a ≤ 99) = q := ⟨_, rfl⟩
  obtain ⟨q4, h4⟩ : ∃ q, decide (0 ≤ t ∧ t ≤ 999) = q := ⟨_, rfl⟩
  rw [h1, h3, h4]
  have H1 := Lib.hid h1
  have H3 := Lib.hid h3
  have H4 := Lib.hid h4
  clear h1 h3 h4
  cases q1
  ·
    go_enter Try.func22, Try.ntmps22
    go_wp2_with (first | (go_at_call 25; refine (l6In_any _ _ _ _).mono ?_; rw [H1.out]; rintro e w' ⟨rfl, rfl⟩) | (go_at_call 25; refine (l6In_any _ _ _ _).mono ?_; rw [H3.out]; rintro e w' ⟨rfl, rfl⟩) | (go_at_call 25; refine (l6In_any _ _ _ _).mono ?_; rw [H4.out]; rintro e w' ⟨rfl, rfl⟩))
    go_ret
    exact ⟨rfl, rfl⟩
  cases q3
  ·
    go_enter Try.func22, Try.ntmps22
    go_wp2_with (first | (go_at_call 25; refine (l6In_any _ _ _ _).mono ?_; rw [H1.out]; rintro e w' ⟨rfl, rfl⟩) | (go_at_call 25; refine (l6In_any _ _ _ _).mono ?_; rw [H3.out]; rintro e w' ⟨rfl, rfl⟩) | (go_at_call 25; refine (l6In_any _ _ _ _).mono ?_; rw [H4.out]; rintro e w' ⟨rfl, rfl⟩))
    go_ret
    exact ⟨rfl, rfl⟩
  cases q4
  ·
    go_enter Try.func22, Try.ntmps22
    go_wp2_with (first | (go_at_call 25; refine (l6In_any _ _ _ _).mono ?_; rw [H1.out]; rintro e w' ⟨rfl, rfl⟩) | (go_at_call 25; refine (l6In_any _ _ _ _).mono ?_; rw [H3.out]; rintro e w' ⟨rfl, rfl⟩) | (go_at_call 25; refine (l6In_any _ _ _ _).mono ?_; rw [H4.out]; rintro e w' ⟨rfl, rfl⟩))
    go_ret
    exact ⟨rfl, rfl⟩
  ·
    go_enter Try.func22, Try.ntmps22
    go_wp2_with (first | (go_at_call 25; refine (l6In_any _ _ _ _).mono ?_; rw [H1.out]; rintro e w' ⟨rfl, rfl⟩) | (go_at_call 25; refine (l6In_any _ _ _ _).mono ?_; rw [H3.out]; rintro e w' ⟨rfl, rfl⟩) | (go_at_call 25; refine (l6In_any _ _ _ _).mono ?_; rw [H4.out]; rintro e w' ⟨rfl, rfl⟩))
    go_ret
    exact ⟨rfl, rfl⟩

/-- A token as a value: address, time, tag. -/
def tkV (x : Int × Int × Int) : Value := .agg #[.int .i64 x.1, .int .i64 x.2.1, .int .i64 x.2.2]
def tkres (s a t : Int) : Int × Int × Int := if tkok s a t then (a, t, tkt s a t) else (0, 0, 0)
theorem tkres_ok {s a t : Int} (h : tkok s a t) : tkres s a t = (a, t, tkt s a t) := by unfold tkres; rw [if_pos h]
theorem tkres_no {s a t : Int} (h : ¬ tkok s a t) : tkres s a t = (0, 0, 0) := by unfold tkres; rw [if_neg h]
def Made (s a t : Int) (w : World) (e : Ending) (w' : World) : Prop := e = .returned (.tuple #[tkV (tkres s a t), .bool (decide (tkok s a t))]) ∧ Below w.heap.size w w'

set_option maxRecDepth 100000 in
set_option maxHeartbeats 1000000 in
theorem imake_any (s a t : Int) (w : World) : Calls Try.prog 11 #[.int .i64 s, .int .i64 a, .int .i64 t] w (Made s a t w) := by
  by_cases h : tkok s a t
  · have HD := Lib.hid (decide_eq_true h)
    have HK := Lib.hid h
    have HM := Lib.hid (tkres_ok h)
    clear h
    go_enter Try.func11, Try.ntmps11
    go_wp2_with fail
    refine (canissue_any s a t _).mono ?_
    rw [HD.out]
    rintro e w' ⟨rfl, rfl⟩
    go_wp2_with fail
    refine (itag_any s a t _ HK.out).mono ?_
    rintro e w' ⟨rfl, rfl⟩
    go_wp2_with fail
    refine bodyPost_ret (v := .tuple #[tkV (a, t, tkt s a t), .bool true]) ?hr rfl ?_
    case hr => rw [results_cell_tmp rfl]; unfold tkV; go_simp
    unfold Made
    rw [HM.out, HD.out]
    exact ⟨rfl, (Below.refl _ _).alloc (Nat.le_refl _) _⟩
  · have HD := Lib.hid (decide_eq_false h)
    have HM := Lib.hid (tkres_no h)
    clear h
    go_enter Try.func11, Try.ntmps11
    go_wp2_with fail
    refine (canissue_any s a t _).mono ?_
    rw [HD.out]
    rintro e w' ⟨rfl, rfl⟩
    go_wp2_with fail
    refine bodyPost_ret (v := .tuple #[tkV (0, 0, 0), .bool false]) ?hr rfl ?_
    case hr => rw [results_cell_tmp rfl]; unfold tkV; go_simp
    unfold Made
    rw [HM.out, HD.out]
    exact ⟨rfl, (Below.refl _ _).alloc (Nat.le_refl _) _⟩

set_option maxRecDepth 100000 in
set_option maxHeartbeats 1000000 in
theorem smake_any (s a t : Int) (w : World) : Calls Try.prog 12 #[.int .i64 s, .int .i64 a, .int .i64 t] w (Made s a t w) := by
  by_cases h : tkok s a t
  · have HD := Lib.hid (decide_eq_true h)
    have HK := Lib.hid h
    have HM := Lib.hid (tkres_ok h)
    clear h
    go_enter Try.func12, Try.ntmps12
    go_wp2_with fail
    refine (sargs_any s a t _).mono ?_
    rw [HD.out]
    rintro e w' ⟨rfl, rfl⟩
    go_wp2_with fail
    refine (stag_any s a t _ HK.out).mono ?_
    rintro e w' ⟨rfl, rfl⟩
    go_wp2_with fail
    refine bodyPost_ret (v := .tuple #[tkV (a, t, tkt s a t), .bool true]) ?hr rfl ?_
    case hr => rw [results_cell_tmp rfl]; unfold tkV; go_simp
    unfold Made
    rw [HM.out, HD.out]
    exact ⟨rfl, (Below.refl _ _).alloc (Nat.le_refl _) _⟩
  · have HD := Lib.hid (decide_eq_false h)
    have HM := Lib.hid (tkres_no h)
    clear h
    go_enter Try.func12, Try.ntmps12
    go_wp2_with fail
    refine (sargs_any s a t _).mono ?_
    rw [HD.out]
    rintro e w' ⟨rfl, rfl⟩
    go_wp2_with fail
    refine bodyPost_ret (v := .tuple #[tkV (0, 0, 0), .bool false]) ?hr rfl ?_
    case hr => rw [results_cell_tmp rfl]; unfold tkV; go_simp
    unfold Made
    rw [HM.out, HD.out]
    exact ⟨rfl, (Below.refl _ _).alloc (Nat.le_refl _) _⟩

end Go.Proofs.Ytbmlckhjjfipbaa
