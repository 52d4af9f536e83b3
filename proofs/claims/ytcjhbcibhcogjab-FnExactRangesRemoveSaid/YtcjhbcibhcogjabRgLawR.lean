/- Chapter 2, plain lists: what the laws on removing say. -/
import Derived.Test.YtcjhbcibhcogjabRgLaw
import Derived.Test.YtcjhbcibhcogjabSRem
namespace Go.Proofs.Ytcjhbcibhcogjab
set_option linter.unusedVariables false
set_option linter.unusedSimpArgs false

theorem rremOk_parts {l : List (Int × Int)} {lo hi : Int} (h : rremOk l lo hi = true) : vfrom 0 l = true ∧ (0 ≤ lo ∧ lo ≤ hi ∧ hi ≤ 999) ∧ (lrem l lo hi).length ≤ 16 ∧ l.length ≤ 16 ∧ rvalid l = true := by
  unfold rremOk at h
  rw [Bool.and_eq_true, Bool.and_eq_true, decide_eq_true_eq] at h
  obtain ⟨⟨h1, h2⟩, h3⟩ := h
  have hr := h1
  unfold rvalid at h1
  rw [Bool.and_eq_true, decide_eq_true_eq] at h1
  unfold spanOk at h2
  exact ⟨h1.1, of_decide_eq_true h2, h3, h1.2, hr⟩
theorem rrem_eq {l : List (Int × Int)} {lo hi : Int} (h : rremOk l lo hi = true) : rrem l lo hi = lrem l lo hi := by unfold rrem; rw [h]; rfl
/-- Removing what was added. -/
theorem add_undo {l : List (Int × Int)} {lo hi : Int} (h : raddOk l lo hi = true) (k1 : rremOk (radd l lo hi) lo hi = true) (k2 : rremOk l lo hi = true) : rrem (radd l lo hi) lo hi = rrem l lo hi := by
  obtain ⟨hv, ⟨h0, h1, h2⟩, h3, _, _⟩ := raddOk_parts h
  rw [rrem_eq k1, rrem_eq k2, radd_eq h]
  have hv2 := ladd_valid hv h0 h1 h2
  refine vfrom_ext (b := 0) (lrem_valid _ lo hi 0 hv2 h1) (lrem_valid _ lo hi 0 hv h1) fun n => ?_
  rw [lrem_has _ lo hi 0 n hv2 h1, lrem_has _ lo hi 0 n hv h1, ladd_has hv h1]
  constructor
  · rintro ⟨k | k, q⟩
    · exact ⟨k, q⟩
    · exact absurd k q
  · rintro ⟨k, q⟩
    exact ⟨.inl k, q⟩
theorem rrem_len (l : List (Int × Int)) (lo hi : Int) : (rrem l lo hi).length ≤ 16 := by
  cases h : rremOk l lo hi with
  | false => unfold rrem; rw [h]; simp
  | true =>
    rw [rrem_eq h]
    unfold rremOk at h
    rw [Bool.and_eq_true, decide_eq_true_eq] at h
    exact h.2


end Go.Proofs.Ytcjhbcibhcogjab
