/- Whether there is a token; TokenMake: the contracts, the program's and the model's. -/
import Derived.Test.YtbmlckhjjfipbaaDoorTkTag
import Derived.Test.YtbmlckhjjfipbaaDoorUp
import Derived.Laws.ResultCell
namespace Go.Proofs.YtbmlckhjjfipbaaDoor
open Go.RowKit
set_option linter.unusedVariables false
set_option linter.unusedSimpArgs false

theorem tkok_i (s a t : Int) : decide (tkok s a t) = (decide (0 ≤ s ∧ s ≤ 96) && (decide (1 ≤ a) && (decide (0 ≤ a ∧ a ≤ 99) && decide (0 ≤ t ∧ t ≤ 999)))) := by
  rw [Bool.eq_iff_iff]; simp only [Bool.and_eq_true, decide_eq_true_eq]; unfold tkok; omega
theorem tkok_s (s a t : Int) : decide (tkok s a t) = (decide (0 ≤ s ∧ s ≤ 96) && (decide (1 ≤ a ∧ a ≤ 99) && decide (0 ≤ t ∧ t ≤ 999))) := by
  rw [Bool.eq_iff_iff]; simp only [Bool.and_eq_true, decide_eq_true_eq]; unfold tkok; omega

set_option maxRecDepth 100000 in
set_option maxHeartbeats 1000000 in
theorem canissue_any (s a t : Int) (w : World) : Calls Tryd.prog 18 #[.int .i64 s, .int .i64 a, .int .i64 t] w fun e w' => e = .returned (.bool (decide (tkok s a t))) ∧ w = w' := by
  rw [tkok_i]
  obtain ⟨q1, h1⟩ : ∃ q, decide (0 ≤ s ∧ s ≤ 96) = q := ⟨_, rfl⟩
  obtain ⟨q2, h2⟩ : ∃ q, decide (1 ≤ a) = q := ⟨_, rfl⟩
  obtain ⟨q3, h3⟩ : ∃ q, decide (0 ≤ a ∧ a ≤ 99) = q := ⟨_, rfl⟩
  obtain ⟨q4, h4⟩ : ∃ q, decide (0 ≤ t ∧ t ≤ 999) = q := ⟨_, rfl⟩
  rw [h1, h2, h3, h4]
  have H1 := Lib.hid h1
  have H3 := Lib.hid h3
  have H4 := Lib.hid h4
  clear h1 h3 h4
  cases q1
  ·
    go_enter Tryd.func18, Tryd.ntmps18
    go_wp2_with (first | (go_at_call 25; refine (upTo_any _ _ _).mono ?_; rw [H1.out]; rintro e w' ⟨rfl, rfl⟩) | (go_at_call 25; refine (upTo_any _ _ _).mono ?_; rw [H3.out]; rintro e w' ⟨rfl, rfl⟩) | (go_at_call 25; refine (upTo_any _ _ _).mono ?_; rw [H4.out]; rintro e w' ⟨rfl, rfl⟩))
    go_ret
    exact ⟨rfl, rfl⟩
  cases q2
  ·
    go_enter Tryd.func18, Tryd.ntmps18
    go_wp2_with (first | (go_at_call 25; refine (upTo_any _ _ _).mono ?_; rw [H1.out]; rintro e w' ⟨rfl, rfl⟩) | (go_at_call 25; refine (upTo_any _ _ _).mono ?_; rw [H3.out]; rintro e w' ⟨rfl, rfl⟩) | (go_at_call 25; refine (upTo_any _ _ _).mono ?_; rw [H4.out]; rintro e w' ⟨rfl, rfl⟩))
    go_ret
    exact ⟨rfl, rfl⟩
  cases q3
  ·
    go_enter Tryd.func18, Tryd.ntmps18
    go_wp2_with (first | (go_at_call 25; refine (upTo_any _ _ _).mono ?_; rw [H1.out]; rintro e w' ⟨rfl, rfl⟩) | (go_at_call 25; refine (upTo_any _ _ _).mono ?_; rw [H3.out]; rintro e w' ⟨rfl, rfl⟩) | (go_at_call 25; refine (upTo_any _ _ _).mono ?_; rw [H4.out]; rintro e w' ⟨rfl, rfl⟩))
    go_ret
    exact ⟨rfl, rfl⟩
  cases q4
  ·
    go_enter Tryd.func18, Tryd.ntmps18
    go_wp2_with (first | (go_at_call 25; refine (upTo_any _ _ _).mono ?_; rw [H1.out]; rintro e w' ⟨rfl, rfl⟩) | (go_at_call 25; refine (upTo_any _ _ _).mono ?_; rw [H3.out]; rintro e w' ⟨rfl, rfl⟩) | (go_at_call 25; refine (upTo_any _ _ _).mono ?_; rw [H4.out]; rintro e w' ⟨rfl, rfl⟩))
    go_ret
    exact ⟨rfl, rfl⟩
  ·
    go_enter Tryd.func18, Tryd.ntmps18
    go_wp2_with (first | (go_at_call 25; refine (upTo_any _ _ _).mono ?_; rw [H1.out]; rintro e w' ⟨rfl, rfl⟩) | (go_at_call 25; refine (upTo_any _ _ _).mono ?_; rw [H3.out]; rintro e w' ⟨rfl, rfl⟩) | (go_at_call 25; refine (upTo_any _ _ _).mono ?_; rw [H4.out]; rintro e w' ⟨rfl, rfl⟩))
    go_ret
    exact ⟨rfl, rfl⟩

set_option maxRecDepth 100000 in
set_option maxHeartbeats 1000000 in
theorem sargs_any (s a t : Int) (w : World) : Calls Tryd.prog 20 #[.int .i64 s, .int .i64 a, .int .i64 t] w fun e w' => e = .returned (.bool (decide (tkok s a t))) ∧ w = w' := by
  rw [tkok_s]
  obtain ⟨q1, h1⟩ : ∃ q, decide (0 ≤ s ∧ s ≤ 96) = q := ⟨_, rfl⟩
  obtain ⟨q3, h3⟩ : ∃ q, decide (1 ≤ a ∧ a ≤ 99) = q := ⟨_, rfl⟩
  obtain ⟨q4, h4⟩ : ∃ q, decide (0 ≤ t ∧ t ≤ 999) = q := ⟨_, rfl⟩
  rw [h1, h3, h4]
  have H1 := Lib.hid h1
  have H3 := Lib.hid h3
  have H4 := Lib.hid h4
  clear h1 h3 h4
  cases q1
  ·
    go_enter Tryd.func20, Tryd.ntmps20
    go_wp2_with (first | (go_at_call 24; refine (l6In_any _ _ _ _).mono ?_; rw [H1.out]; rintro e w' ⟨rfl, rfl⟩) | (go_at_call 24; refine (l6In_any _ _ _ _).mono ?_; rw [H3.out]; rintro e w' ⟨rfl, rfl⟩) | (go_at_call 24; refine (l6In_any _ _ _ _).mono ?_; rw [H4.out]; rintro e w' ⟨rfl, rfl⟩))
    go_ret
    exact ⟨rfl, rfl⟩
  cases q3
  ·
    go_enter Tryd.func20, Tryd.ntmps20
    go_wp2_with (first | (go_at_call 24; refine (l6In_any _ _ _ _).mono ?_; rw [H1.out]; rintro e w' ⟨rfl, rfl⟩) | (go_at_call 24; refine (l6In_any _ _ _ _).mono ?_; rw [H3.out]; rintro e w' ⟨rfl, rfl⟩) | (go_at_call 24; refine (l6In_any _ _ _ _).mono ?_; rw [H4.out]; rintro e w' ⟨rfl, rfl⟩))
    go_ret
    exact ⟨rfl, rfl⟩
  cases q4
  ·
    go_enter Tryd.func20, Tryd.ntmps20
    go_wp2_with (first | (go_at_call 24; refine (l6In_any _ _ _ _).mono ?_; rw [H1.out]; rintro e w' ⟨rfl, rfl⟩) | (go_at_call 24; refine (l6In_any _ _ _ _).mono ?_; rw [H3.out]; rintro e w' ⟨rfl, rfl⟩) | (go_at_call 24; refine (l6In_any _ _ _ _).mono ?_; rw [H4.out]; rintro e w' ⟨rfl, rfl⟩))
    go_ret
    exact ⟨rfl, rfl⟩
  ·
    go_enter Tryd.func20, Tryd.ntmps20
    go_wp2_with (first | (go_at_call 24; refine (l6In_any _ _ _ _).mono ?_; rw [H1.out]; rintro e w' ⟨rfl, rfl⟩) | (go_at_call 24; refine (l6In_any _ _ _ _).mono ?_; rw [H3.out]; rintro e w' ⟨rfl, rfl⟩) | (go_at_call 24; refine (l6In_any _ _ _ _).mono ?_; rw [H4.out]; rintro e w' ⟨rfl, rfl⟩))
    go_ret
    exact ⟨rfl, rfl⟩

/-- A token as a value: address, time, tag. -/
def tkV (x : Int × Int × Int) : Value := .agg #[.int .i64 x.1, .int .i64 x.2.1, .int .i64 x.2.2]
def tkres (s a t : Int) : Int × Int × Int := if tkok s a t then (a, t, tkt s a t) else (0, 0, 0)
theorem tkres_ok {s a t : Int} (h : tkok s a t) : tkres s a t = (a, t, tkt s a t) := by unfold tkres; rw [if_pos h]
theorem tkres_no {s a t : Int} (h : ¬ tkok s a t) : tkres s a t = (0, 0, 0) := by unfold tkres; rw [if_neg h]
def Made (s a t : Int) (w : World) (e : Ending) (w' : World) : Prop := e = .returned (.tuple #[tkV (tkres s a t), .bool (decide (tkok s a t))]) ∧ Below w.heap.size w w'

set_option maxRecDepth 100000 in
set_option maxHeartbeats 1000000 in
theorem imake_any (s a t : Int) (w : World) : Calls Tryd.prog 9 #[.int .i64 s, .int .i64 a, .int .i64 t] w (Made s a t w) := by
  by_cases h : tkok s a t
  · have HD := Lib.hid (decide_eq_true h)
    have HK := Lib.hid h
    have HM := Lib.hid (tkres_ok h)
    clear h
    go_enter Tryd.func9, Tryd.ntmps9
    go_wp2_with fail
    refine (canissue_any s a t _).mono ?_
    rw [HD.out]
    rintro e w' ⟨rfl, rfl⟩
    go_wp2_with fail
    refine (itag_any s a t _ HK.out).mono ?_
    rintro e w' ⟨rfl, rfl⟩
    go_wp2_with fail
    refine bodyPost_ret (v := .tuple #[tkV (a, t, tkt s a t), .bool true]) ?hr rfl ?_
    case hr => rw [results_cell_tmp rfl]; unfold tkV; go_simp
    unfold Made
    rw [HM.out, HD.out]
    exact ⟨rfl, (Below.refl _ _).alloc (Nat.le_refl _) _⟩
  · have HD := Lib.hid (decide_eq_false h)
    have HM := Lib.hid (tkres_no h)
    clear h
    go_enter Tryd.func9, Tryd.ntmps9
    go_wp2_with fail
    refine (canissue_any s a t _).mono ?_
    rw [HD.out]
    rintro e w' ⟨rfl, rfl⟩
    go_wp2_with fail
    refine bodyPost_ret (v := .tuple #[tkV (0, 0, 0), .bool false]) ?hr rfl ?_
    case hr => rw [results_cell_tmp rfl]; unfold tkV; go_simp
    unfold Made
    rw [HM.out, HD.out]
    exact ⟨rfl, (Below.refl _ _).alloc (Nat.le_refl _) _⟩

set_option maxRecDepth 100000 in
set_option maxHeartbeats 1000000 in
theorem smake_any (s a t : Int) (w : World) : Calls Tryd.prog 10 #[.int .i64 s, .int .i64 a, .int .i64 t] w (Made s a t w) := by
  by_cases h : tkok s a t
  · have HD := Lib.hid (decide_eq_true h)
    have HK := Lib.hid h
    have HM := Lib.hid (tkres_ok h)
    clear h
    go_enter Tryd.func10, Tryd.ntmps10
    go_wp2_with fail
    refine (sargs_any s a t _).mono ?_
    rw [HD.out]
    rintro e w' ⟨rfl, rfl⟩
    go_wp2_with fail
    refine (stag_any s a t _ HK.out).mono ?_
    rintro e w' ⟨rfl, rfl⟩
    go_wp2_with fail
    refine bodyPost_ret (v := .tuple #[tkV (a, t, tkt s a t), .bool true]) ?hr rfl ?_
    case hr => rw [results_cell_tmp rfl]; unfold tkV; go_simp
    unfold Made
    rw [HM.out, HD.out]
    exact ⟨rfl, (Below.refl _ _).alloc (Nat.le_refl _) _⟩
  · have HD := Lib.hid (decide_eq_false h)
    have HM := Lib.hid (tkres_no h)
    clear h
    go_enter Tryd.func10, Tryd.ntmps10
    go_wp2_with fail
    refine (sargs_any s a t _).mono ?_
    rw [HD.out]
    rintro e w' ⟨rfl, rfl⟩
    go_wp2_with fail
    refine bodyPost_ret (v := .tuple #[tkV (0, 0, 0), .bool false]) ?hr rfl ?_
    case hr => rw [results_cell_tmp rfl]; unfold tkV; go_simp
    unfold Made
    rw [HM.out, HD.out]
    exact ⟨rfl, (Below.refl _ _).alloc (Nat.le_refl _) _⟩

end Go.Proofs.YtbmlckhjjfipbaaDoor
