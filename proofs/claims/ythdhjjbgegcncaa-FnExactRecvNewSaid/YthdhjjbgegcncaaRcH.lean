/- What chapter 31's walks share with the frames'. -/
import Derived.Test.YthdhjjbgegcncaaFrm
import Derived.Laws.ResultCell
namespace Go.Proofs.Ythdhjjbgegcncaa
open Go.RowKit
set_option linter.unusedVariables false
set_option linter.unusedSimpArgs false

theorem Frm.grown {w w' : World} {g b : Nat} {vs : List Value} (h : Frm w g vs) (hv : 0 < vs.length) (hg : w.grownBy w' (some b)) (hb : g ≠ b) : Frm w' g vs := fun i => by
  have hlt : g < w.heap.size := World.block_lt_of_cell? w _ ((h 0).trans (List.getElem?_eq_getElem hv))
  exact (World.grownBy.cell_far hg ⟨g, i, none⟩ hlt (by intro e; injection e with e; exact hb e)).trans (h i)
theorem Thaw.grown {w w' : World} {g b : Nat} (h : Thaw w g) (hlt : g < w.heap.size) (hg : w.grownBy w' (some b)) (hb : g ≠ b) : Thaw w' g := fun i =>
  (World.grownBy.frozen_far hg ⟨g, i, none⟩ hlt (by intro e; injection e with e; exact hb e)).trans (h i)
theorem results_cell_one {fn : Func} {p : Tmp} {ty : TypeId} (h : fn.results = #[.cell p ty]) (tmps : Array Value) (P : Program) (w : World) :
    (results fn tmps).run P w = ((asAddr (tmps.getD p undef)).run P w).andThen fun a w₁ => (loadVar ty a).run P w₁ := by
  simp only [results, h]
  simp [Sem.run_bind, Result.andThen]
end Go.Proofs.Ythdhjjbgegcncaa
