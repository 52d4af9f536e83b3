/- What the laws of frames share. -/
import Derived.Test.YthflokonihegbaaIC
import Derived.Test.YthflokonihegbaaID
import Derived.Test.YthflokonihegbaaSameFr
import Derived.Test.YthflokonihegbaaConv
namespace Go.Proofs.Ythflokonihegbaa
open Go.RowKit
set_option linter.unusedVariables false
set_option linter.unusedSimpArgs false

theorem frB_lens {f : Fr} (h : FrB f) : f.rs.length ≤ 1048576 ∧ f.d.size ≤ 2097152 := by unfold FrB at h; omega
theorem fencS_empty (f : Fr) : (fencS f).toList.isEmpty = !fok f := by
  cases hq : fok f
  · have : fencS f = ⟨#[]⟩ := by unfold fencS; rw [hq]; rfl
    rw [this]; exact isEmpty_of_zero rfl
  · have : fencS f = fenc f := by unfold fencS; rw [if_pos hq]
    rw [this]; exact isEmpty_of_pos (by have := fenc_size hq; omega)
theorem fencS_yes {f : Fr} (h : fok f = true) : fencS f = fenc f := by unfold fencS; rw [if_pos h]
theorem fencS_no {f : Fr} (h : fok f = false) : fencS f = ⟨#[]⟩ := by unfold fencS; rw [h]; rfl

end Go.Proofs.Ythflokonihegbaa
