/- Chapter 2, plain lists: what the laws on adding and removing say. -/
import Derived.Test.YtcjhbcibhcogjaaSAdd
namespace Go.Proofs.Ytcjhbcibhcogjaa
set_option linter.unusedVariables false
set_option linter.unusedSimpArgs false

theorem raddOk_parts {l : List (Int × Int)} {lo hi : Int} (h : raddOk l lo hi = true) : vfrom 0 l = true ∧ (0 ≤ lo ∧ lo ≤ hi ∧ hi ≤ 999) ∧ (ladd l lo hi).length ≤ 16 ∧ l.length ≤ 16 ∧ rvalid l = true := by
  unfold raddOk at h
  rw [Bool.and_eq_true, Bool.and_eq_true, decide_eq_true_eq] at h
  obtain ⟨⟨h1, h2⟩, h3⟩ := h
  have hr := h1
  unfold rvalid at h1
  rw [Bool.and_eq_true, decide_eq_true_eq] at h1
  unfold spanOk at h2
  exact ⟨h1.1, of_decide_eq_true h2, h3, h1.2, hr⟩
theorem radd_eq {l : List (Int × Int)} {lo hi : Int} (h : raddOk l lo hi = true) : radd l lo hi = ladd l lo hi := by unfold radd; rw [h]; rfl
theorem ladd_valid {l : List (Int × Int)} {lo hi : Int} (hv : vfrom 0 l = true) (h0 : 0 ≤ lo) (h1 : lo ≤ hi) (h2 : hi ≤ 999) : vfrom 0 (ladd l lo hi) = true := (add_valid l lo hi hv h0 h1 h2).1
theorem ladd_has {l : List (Int × Int)} {lo hi n : Int} (hv : vfrom 0 l = true) (h1 : lo ≤ hi) : rhas (ladd l lo hi) n = true ↔ rhas l n = true ∨ (lo ≤ n ∧ n ≤ hi) := by
  rw [ladd_ins lo hi hv]; exact ins_has l lo hi 0 n hv h1

/-- Adding again changes nothing. -/
theorem add_twice {l : List (Int × Int)} {lo hi : Int} (h : raddOk l lo hi = true) : raddOk (radd l lo hi) lo hi = true ∧ radd (radd l lo hi) lo hi = radd l lo hi := by
  obtain ⟨hv, ⟨h0, h1, h2⟩, h3, _, _⟩ := raddOk_parts h
  have e := radd_eq h
  have hv2 := ladd_valid hv h0 h1 h2
  have same : ladd (ladd l lo hi) lo hi = ladd l lo hi := by
    refine vfrom_ext (b := 0) (ladd_valid hv2 h0 h1 h2) hv2 fun n => ?_
    rw [ladd_has hv2 h1, ladd_has hv h1]
    constructor
    · rintro (k | k)
      · exact k
      · exact .inr k
    · exact fun k => .inl k
  have hok : raddOk (ladd l lo hi) lo hi = true := by
    unfold raddOk rvalid spanOk
    rw [hv2, same, decide_eq_true h3, decide_eq_true (⟨h0, h1, h2⟩ : 0 ≤ lo ∧ lo ≤ hi ∧ hi ≤ 999)]
    rfl
  rw [e]
  exact ⟨hok, by rw [radd_eq hok, same]⟩
theorem radd_len (l : List (Int × Int)) (lo hi : Int) : (radd l lo hi).length ≤ 16 := by
  cases h : raddOk l lo hi with
  | false => unfold radd; rw [h]; simp
  | true => rw [radd_eq h]; exact (raddOk_parts h).2.2.1
end Go.Proofs.Ytcjhbcibhcogjaa
