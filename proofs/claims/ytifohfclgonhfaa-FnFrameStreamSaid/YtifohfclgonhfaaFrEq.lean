/- Frames that are equal. -/
import Derived.Test.YtifohfclgonhfaaSFr
import Derived.Handy
namespace Go.Proofs.Ytifohfclgonhfaa
open Go.RowKit
set_option linter.unusedVariables false
set_option linter.unusedSimpArgs false

theorem take_step_rg (xs ys : List (Int × Int)) (k : Nat) (hk : k < xs.length) (hl : xs.length = ys.length) (h : xs.take k = ys.take k) :
    ((xs.getD k (0, 0)).1 = (ys.getD k (0, 0)).1 ∧ (xs.getD k (0, 0)).2 = (ys.getD k (0, 0)).2 → xs.take (k + 1) = ys.take (k + 1)) ∧ (¬ ((xs.getD k (0, 0)).1 = (ys.getD k (0, 0)).1 ∧ (xs.getD k (0, 0)).2 = (ys.getD k (0, 0)).2) → (xs == ys) = false) := by
  constructor
  · intro hz
    rw [take_get xs k hk, take_get ys k (by omega), h, Prod.ext hz.1 hz.2]
  · intro hz
    rw [beq_eq_false_iff_ne]; rintro rfl; exact hz ⟨rfl, rfl⟩

def frEq (f g : Fr) : Bool := f.k == g.k && (f.a == g.a && (f.b == g.b && (f.c == g.c && (decide (f.d = g.d) && f.rs == g.rs))))
theorem frEq_iff {f g : Fr} : frEq f g = true ↔ f = g := by
  unfold frEq
  simp only [Bool.and_eq_true, beq_iff_eq, decide_eq_true_eq]
  constructor
  · rintro ⟨h1, h2, h3, h4, h5, h6⟩; exact fr_ext h1 h2 h3 h4 h5 h6
  · rintro rfl; exact ⟨rfl, rfl, rfl, rfl, rfl, rfl⟩

theorem toList_inj {d e : ByteArray} (h : d.toList = e.toList) : d = e := by
  apply bytes_ext; rw [← Lib.toList_data, ← Lib.toList_data]; exact h
theorem frEq_no {f g : Fr} (h : f ≠ g) : frEq f g = false := by
  cases hq : frEq f g
  · rfl
  · exact absurd (frEq_iff.1 hq) h

end Go.Proofs.Ytifohfclgonhfaa
