/- RttValid: the contracts, the program's and the model's. -/
import Derived.Test.YtlhjhdlpejpooaaRtA
namespace Go.Proofs.Ytlhjhdlpejpooaa
open Go.RowKit
set_option linter.unusedVariables false
set_option linter.unusedSimpArgs false

theorem sm_iff {c : Int} (h0 : -9223372036854775808 ≤ c) (h1 : c ≤ 9223372036854775807) : (1 ≤ wrap64 (c.tdiv 8) ∧ wrap64 (c.tdiv 8) ≤ 999) ↔ (8 ≤ c ∧ c ≤ 7999) := by
  by_cases h : 0 ≤ c
  · have e : c.tdiv 8 = c / 8 := Int.tdiv_eq_ediv_of_nonneg h
    rw [e]; unfold wrap64; omega
  · have e : c.tdiv 8 = -((-c) / 8) := by
      rw [← Int.tdiv_eq_ediv_of_nonneg (show 0 ≤ -c by omega), Int.neg_tdiv, Int.neg_neg]
    rw [e]; unfold wrap64; omega

set_option maxRecDepth 100000 in
set_option maxHeartbeats 2000000 in
theorem ivalid_any (a b c d : Int) (w : World) (hc : -9223372036854775808 ≤ c ∧ c ≤ 9223372036854775807) : Calls Try.prog 18 #[.agg #[.int .i64 a, .int .i64 b, .int .i64 c, .int .i64 d]] w fun e w' => e = .returned (.bool (decide (rok a b c d))) ∧ Below w.heap.size w w' := by
  obtain ⟨qz, hz⟩ : ∃ q, decide (rz a b c d) = q := ⟨_, rfl⟩
  obtain ⟨q1, h1⟩ : ∃ q, decide (1 ≤ a ∧ a ≤ 999) = q := ⟨_, rfl⟩
  obtain ⟨q4, h4⟩ : ∃ q, decide (1 ≤ wrap64 (c.tdiv 8) ∧ wrap64 (c.tdiv 8) ≤ 999) = q := ⟨_, rfl⟩
  obtain ⟨q5, h5⟩ : ∃ q, decide (0 ≤ d ∧ d ≤ 3999) = q := ⟨_, rfl⟩
  have HZ := Lib.hid hz
  have H1 := Lib.hid h1
  have H4 := Lib.hid h4
  have H5 := Lib.hid h5
  have hi4 := sm_iff hc.1 hc.2
  have R := Lib.hid (R4.new w a b c d 24)
  have B := Lib.hid ((Below.refl w.heap.size w).alloc (Nat.le_refl _) (.cells #[.int .i64 a, .int .i64 b, .int .i64 c, .int .i64 d] 24))
  cases qz
  case true =>
    have HR : Hid (decide (rok a b c d) = true) := Lib.hid (decide_eq_true (.inl (of_decide_eq_true hz)))
    clear h1 h4 h5 hz hi4 hc
    have R' := R.out
    obtain ⟨c0, c1, c2, c3, fz⟩ := R'
    go_enter Try.func18, Try.ntmps18
    go_wp2_with (first | (go_at_call 36; (with_reducible refine (unsampled_any _ _ _ _ _ _ R.out).mono ?_); rw [HZ.out]; rintro e w' ⟨rfl, rfl⟩) | (go_at_call 41; (with_reducible refine (smoothed_any _ _ _ _ _ _ R.out).mono ?_); rintro e w' ⟨rfl, rfl⟩) | (go_at_call 34; (with_reducible refine (isSample_any _ _).mono ?_); (first | rw [H1.out] | rw [H4.out]); rintro e w' ⟨rfl, rfl⟩) | (go_at_call 35; (with_reducible refine (upTo_any _ _ _).mono ?_); rw [H5.out]; rintro e w' ⟨rfl, rfl⟩))
    go_ret
    exact ⟨ret_bool HR.out.symm, B.out⟩
  have nz : ¬ rz a b c d := of_decide_eq_false hz
  cases q1
  case false =>
    have k := of_decide_eq_false h1
    have HR : Hid (decide (rok a b c d) = false) := Lib.hid (decide_eq_false (fun h => by rcases h with h | h; exact nz h; unfold rs at h; omega))
    clear h1 h4 h5 hz hi4 hc
    have R' := R.out
    obtain ⟨c0, c1, c2, c3, fz⟩ := R'
    go_enter Try.func18, Try.ntmps18
    go_wp2_with (first | (go_at_call 36; (with_reducible refine (unsampled_any _ _ _ _ _ _ R.out).mono ?_); rw [HZ.out]; rintro e w' ⟨rfl, rfl⟩) | (go_at_call 41; (with_reducible refine (smoothed_any _ _ _ _ _ _ R.out).mono ?_); rintro e w' ⟨rfl, rfl⟩) | (go_at_call 34; (with_reducible refine (isSample_any _ _).mono ?_); (first | rw [H1.out] | rw [H4.out]); rintro e w' ⟨rfl, rfl⟩) | (go_at_call 35; (with_reducible refine (upTo_any _ _ _).mono ?_); rw [H5.out]; rintro e w' ⟨rfl, rfl⟩))
    go_ret
    exact ⟨ret_bool HR.out.symm, B.out⟩
  have k1 := of_decide_eq_true h1
  by_cases k2 : 1 ≤ b
  case neg =>
    have d2 := decide_eq_false k2
    have HR : Hid (decide (rok a b c d) = false) := Lib.hid (decide_eq_false (fun h => by rcases h with h | h; exact nz h; unfold rs at h; omega))
    clear h1 h4 h5 hz hi4 hc
    have R' := R.out
    obtain ⟨c0, c1, c2, c3, fz⟩ := R'
    go_enter Try.func18, Try.ntmps18
    go_wp2_with (first | (go_at_call 36; (with_reducible refine (unsampled_any _ _ _ _ _ _ R.out).mono ?_); rw [HZ.out]; rintro e w' ⟨rfl, rfl⟩) | (go_at_call 41; (with_reducible refine (smoothed_any _ _ _ _ _ _ R.out).mono ?_); rintro e w' ⟨rfl, rfl⟩) | (go_at_call 34; (with_reducible refine (isSample_any _ _).mono ?_); (first | rw [H1.out] | rw [H4.out]); rintro e w' ⟨rfl, rfl⟩) | (go_at_call 35; (with_reducible refine (upTo_any _ _ _).mono ?_); rw [H5.out]; rintro e w' ⟨rfl, rfl⟩))
    go_ret
    exact ⟨ret_bool HR.out.symm, B.out⟩
  have d2 := decide_eq_true k2
  by_cases k3 : b ≤ a
  case neg =>
    have d3 := decide_eq_false k3
    have HR : Hid (decide (rok a b c d) = false) := Lib.hid (decide_eq_false (fun h => by rcases h with h | h; exact nz h; unfold rs at h; omega))
    clear h1 h4 h5 hz hi4 hc
    have R' := R.out
    obtain ⟨c0, c1, c2, c3, fz⟩ := R'
    go_enter Try.func18, Try.ntmps18
    go_wp2_with (first | (go_at_call 36; (with_reducible refine (unsampled_any _ _ _ _ _ _ R.out).mono ?_); rw [HZ.out]; rintro e w' ⟨rfl, rfl⟩) | (go_at_call 41; (with_reducible refine (smoothed_any _ _ _ _ _ _ R.out).mono ?_); rintro e w' ⟨rfl, rfl⟩) | (go_at_call 34; (with_reducible refine (isSample_any _ _).mono ?_); (first | rw [H1.out] | rw [H4.out]); rintro e w' ⟨rfl, rfl⟩) | (go_at_call 35; (with_reducible refine (upTo_any _ _ _).mono ?_); rw [H5.out]; rintro e w' ⟨rfl, rfl⟩))
    go_ret
    exact ⟨ret_bool HR.out.symm, B.out⟩
  have d3 := decide_eq_true k3
  cases q4
  case false =>
    have k := of_decide_eq_false h4
    rw [hi4] at k
    have HR : Hid (decide (rok a b c d) = false) := Lib.hid (decide_eq_false (fun h => by rcases h with h | h; exact nz h; unfold rs at h; omega))
    clear h1 h4 h5 hz hi4 hc
    have R' := R.out
    obtain ⟨c0, c1, c2, c3, fz⟩ := R'
    go_enter Try.func18, Try.ntmps18
    go_wp2_with (first | (go_at_call 36; (with_reducible refine (unsampled_any _ _ _ _ _ _ R.out).mono ?_); rw [HZ.out]; rintro e w' ⟨rfl, rfl⟩) | (go_at_call 41; (with_reducible refine (smoothed_any _ _ _ _ _ _ R.out).mono ?_); rintro e w' ⟨rfl, rfl⟩) | (go_at_call 34; (with_reducible refine (isSample_any _ _).mono ?_); (first | rw [H1.out] | rw [H4.out]); rintro e w' ⟨rfl, rfl⟩) | (go_at_call 35; (with_reducible refine (upTo_any _ _ _).mono ?_); rw [H5.out]; rintro e w' ⟨rfl, rfl⟩))
    go_ret
    exact ⟨ret_bool HR.out.symm, B.out⟩
  have k4 := hi4.mp (of_decide_eq_true h4)
  cases q5
  case false =>
    have k := of_decide_eq_false h5
    have HR : Hid (decide (rok a b c d) = false) := Lib.hid (decide_eq_false (fun h => by rcases h with h | h; exact nz h; unfold rs at h; omega))
    clear h1 h4 h5 hz hi4 hc
    have R' := R.out
    obtain ⟨c0, c1, c2, c3, fz⟩ := R'
    go_enter Try.func18, Try.ntmps18
    go_wp2_with (first | (go_at_call 36; (with_reducible refine (unsampled_any _ _ _ _ _ _ R.out).mono ?_); rw [HZ.out]; rintro e w' ⟨rfl, rfl⟩) | (go_at_call 41; (with_reducible refine (smoothed_any _ _ _ _ _ _ R.out).mono ?_); rintro e w' ⟨rfl, rfl⟩) | (go_at_call 34; (with_reducible refine (isSample_any _ _).mono ?_); (first | rw [H1.out] | rw [H4.out]); rintro e w' ⟨rfl, rfl⟩) | (go_at_call 35; (with_reducible refine (upTo_any _ _ _).mono ?_); rw [H5.out]; rintro e w' ⟨rfl, rfl⟩))
    go_ret
    exact ⟨ret_bool HR.out.symm, B.out⟩
  have k5 := of_decide_eq_true h5
  have HR : Hid (decide (rok a b c d) = true) := Lib.hid (decide_eq_true (.inr (by unfold rs; omega)))
  clear h1 h4 h5 hz hi4 hc
  have R' := R.out
  obtain ⟨c0, c1, c2, c3, fz⟩ := R'
  go_enter Try.func18, Try.ntmps18
  go_wp2_with (first | (go_at_call 36; (with_reducible refine (unsampled_any _ _ _ _ _ _ R.out).mono ?_); rw [HZ.out]; rintro e w' ⟨rfl, rfl⟩) | (go_at_call 41; (with_reducible refine (smoothed_any _ _ _ _ _ _ R.out).mono ?_); rintro e w' ⟨rfl, rfl⟩) | (go_at_call 34; (with_reducible refine (isSample_any _ _).mono ?_); (first | rw [H1.out] | rw [H4.out]); rintro e w' ⟨rfl, rfl⟩) | (go_at_call 35; (with_reducible refine (upTo_any _ _ _).mono ?_); rw [H5.out]; rintro e w' ⟨rfl, rfl⟩))
  go_ret
  exact ⟨ret_bool HR.out.symm, B.out⟩

set_option maxRecDepth 100000 in
set_option maxHeartbeats 2000000 in
theorem svalid_any (a b c d : Int) (w : World) : Calls Try.prog 22 #[.agg #[.int .i64 a, .int .i64 b, .int .i64 c, .int .i64 d]] w fun e w' => e = .returned (.bool (decide (rok a b c d))) ∧ Below w.heap.size w w' := by
  obtain ⟨q1, h1⟩ : ∃ q, decide (1 ≤ a ∧ a ≤ 999) = q := ⟨_, rfl⟩
  obtain ⟨q2, h2⟩ : ∃ q, decide (1 ≤ b ∧ b ≤ a) = q := ⟨_, rfl⟩
  obtain ⟨q4, h4⟩ : ∃ q, decide (8 ≤ c ∧ c ≤ 7999) = q := ⟨_, rfl⟩
  obtain ⟨q5, h5⟩ : ∃ q, decide (0 ≤ d ∧ d ≤ 3999) = q := ⟨_, rfl⟩
  have H1 := Lib.hid h1
  have H2 := Lib.hid h2
  have H4 := Lib.hid h4
  have H5 := Lib.hid h5
  have R := Lib.hid (R4.new w a b c d 24)
  have B := Lib.hid ((Below.refl w.heap.size w).alloc (Nat.le_refl _) (.cells #[.int .i64 a, .int .i64 b, .int .i64 c, .int .i64 d] 24))
  by_cases ha : a = 0
  · have ha' : (a == 0) = true := by rw [beq_iff_eq]; exact ha
    have HR : Hid (decide (rok a b c d) = decide (b = 0 ∧ c = 0 ∧ d = 0)) := Lib.hid (by rw [decide_eq_decide]; unfold rok rz rs; omega)
    clear h1 h2 h4 h5 H1 H2 H4 H5 ha'
    subst ha
    have R' := R.out
    obtain ⟨c0, c1, c2, c3, fz⟩ := R'
    go_enter Try.func22, Try.ntmps22
    go_wp2_with fail
    all_goals
      go_ret
      exact ⟨ret_bool (by rw [HR.out]; symm; simp [*]), (Below.refl _ _).alloc (Nat.le_refl _) _⟩
  have ha' : (a == 0) = false := by rw [beq_eq_false_iff_ne]; exact ha
  have nz : ¬ rz a b c d := fun h => ha h.1
  cases q1
  case false =>
    have k := of_decide_eq_false h1
    have HR : Hid (decide (rok a b c d) = false) := Lib.hid (decide_eq_false (fun h => by rcases h with h | h; exact nz h; unfold rs at h; omega))
    clear h1 h2 h4 h5
    have R' := R.out
    obtain ⟨c0, c1, c2, c3, fz⟩ := R'
    go_enter Try.func22, Try.ntmps22
    go_wp2_with (first | (go_at_call 39; (with_reducible refine (l6In_any _ _ _ _).mono ?_); (first | rw [H1.out] | rw [H2.out] | rw [H4.out] | rw [H5.out]); rintro e w' ⟨rfl, rfl⟩))
    go_ret
    exact ⟨ret_bool HR.out.symm, B.out⟩
  have k1 := of_decide_eq_true h1
  cases q2
  case false =>
    have k := of_decide_eq_false h2
    have HR : Hid (decide (rok a b c d) = false) := Lib.hid (decide_eq_false (fun h => by rcases h with h | h; exact nz h; unfold rs at h; omega))
    clear h1 h2 h4 h5
    have R' := R.out
    obtain ⟨c0, c1, c2, c3, fz⟩ := R'
    go_enter Try.func22, Try.ntmps22
    go_wp2_with (first | (go_at_call 39; (with_reducible refine (l6In_any _ _ _ _).mono ?_); (first | rw [H1.out] | rw [H2.out] | rw [H4.out] | rw [H5.out]); rintro e w' ⟨rfl, rfl⟩))
    go_ret
    exact ⟨ret_bool HR.out.symm, B.out⟩
  have k2 := of_decide_eq_true h2
  cases q4
  case false =>
    have k := of_decide_eq_false h4
    have HR : Hid (decide (rok a b c d) = false) := Lib.hid (decide_eq_false (fun h => by rcases h with h | h; exact nz h; unfold rs at h; omega))
    clear h1 h2 h4 h5
    have R' := R.out
    obtain ⟨c0, c1, c2, c3, fz⟩ := R'
    go_enter Try.func22, Try.ntmps22
    go_wp2_with (first | (go_at_call 39; (with_reducible refine (l6In_any _ _ _ _).mono ?_); (first | rw [H1.out] | rw [H2.out] | rw [H4.out] | rw [H5.out]); rintro e w' ⟨rfl, rfl⟩))
    go_ret
    exact ⟨ret_bool HR.out.symm, B.out⟩
  have k4 := of_decide_eq_true h4
  cases q5
  case false =>
    have k := of_decide_eq_false h5
    have HR : Hid (decide (rok a b c d) = false) := Lib.hid (decide_eq_false (fun h => by rcases h with h | h; exact nz h; unfold rs at h; omega))
    clear h1 h2 h4 h5
    have R' := R.out
    obtain ⟨c0, c1, c2, c3, fz⟩ := R'
    go_enter Try.func22, Try.ntmps22
    go_wp2_with (first | (go_at_call 39; (with_reducible refine (l6In_any _ _ _ _).mono ?_); (first | rw [H1.out] | rw [H2.out] | rw [H4.out] | rw [H5.out]); rintro e w' ⟨rfl, rfl⟩))
    go_ret
    exact ⟨ret_bool HR.out.symm, B.out⟩
  have k5 := of_decide_eq_true h5
  have HR : Hid (decide (rok a b c d) = true) := Lib.hid (decide_eq_true (.inr (by unfold rs; omega)))
  clear h1 h2 h4 h5
  have R' := R.out
  obtain ⟨c0, c1, c2, c3, fz⟩ := R'
  go_enter Try.func22, Try.ntmps22
  go_wp2_with (first | (go_at_call 39; (with_reducible refine (l6In_any _ _ _ _).mono ?_); (first | rw [H1.out] | rw [H2.out] | rw [H4.out] | rw [H5.out]); rintro e w' ⟨rfl, rfl⟩))
  go_ret
  exact ⟨ret_bool HR.out.symm, B.out⟩

end Go.Proofs.Ytlhjhdlpejpooaa
