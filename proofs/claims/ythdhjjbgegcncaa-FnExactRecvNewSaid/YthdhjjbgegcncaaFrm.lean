/- A block of cells, known whole. -/
import Derived.Test.YthdhjjbgegcncaaLit
namespace Go.Proofs.Ythdhjjbgegcncaa
open Go.RowKit
set_option linter.unusedVariables false
set_option linter.unusedSimpArgs false

def Frm (w : World) (b : Nat) (vs : List Value) : Prop := ∀ i, w.cell? ⟨b, i, none⟩ = vs[i]?
def Thaw (w : World) (b : Nat) : Prop := ∀ i, w.frozen? ⟨b, i, none⟩ = false
theorem Frm.new (w : World) (T : TypeId) (vs : List Value) : Frm (w.alloc (.cells vs.toArray T)) w.heap.size vs := cell_lit w T vs
theorem Thaw.new (w : World) (T : TypeId) (vs : List Value) : Thaw (w.alloc (.cells vs.toArray T)) w.heap.size := fun i => World.frozen?_alloc_at _ _ _ i rfl
theorem Frm.below {w w' : World} {B b : Nat} {vs : List Value} (h : Frm w b vs) (hb : Below B w w') (hlt : b < B) : Frm w' b vs := fun i => (hb.cell (p := ⟨b, i, none⟩) hlt).trans (h i)
theorem Thaw.below {w w' : World} {B b : Nat} (h : Thaw w b) (hb : Below B w w') (hlt : b < B) : Thaw w' b := fun i => (hb.frozen (p := ⟨b, i, none⟩) hlt).trans (h i)
theorem Frm.set {w : World} {b i : Nat} {vs : List Value} (h : Frm w b vs) (hi : i < vs.length) (v : Value) : Frm (w.setCell ⟨b, i, none⟩ v) b (vs.set i v) := by
  intro j
  by_cases hj : i = j
  · subst hj
    rw [World.cell?_setCell_same _ _ _ ((h i).trans (List.getElem?_eq_getElem hi)), List.getElem?_set_self hi]
  · rw [World.cell?_setCell_other _ _ _ _ (by intro e; injection e with e1 e2 e3; exact hj e2), List.getElem?_set_ne hj, h j]
theorem Frm.far {w : World} {b b' i : Nat} {vs : List Value} (h : Frm w b vs) (hb : b' ≠ b) (v : Value) : Frm (w.setCell ⟨b', i, none⟩ v) b vs := fun j =>
  (World.cell?_setCell_other _ _ _ _ (by intro e; injection e with e1 e2 e3; exact hb e1)).trans (h j)
theorem Thaw.set {w : World} {b : Nat} (h : Thaw w b) (a : Addr) (v : Value) : Thaw (w.setCell a v) b := fun j => by rw [World.frozen?_setCell]; exact h j
theorem own_far {w : World} {B n k b' i : Nat} {e : TypeId} {v u : Value} {xs : List Value} (h : w.ownsRow B e k v n xs) (hb : ∀ g, v.ownBlock = some g → b' ≠ g) : (w.setCell ⟨b', i, none⟩ u).ownsRow B e k v n xs := by
  obtain ⟨h0, h | ⟨g, c, cur, h1, h2, h3, h4⟩⟩ := h
  · exact ⟨h0, .inl h⟩
  · refine ⟨h0, .inr ⟨g, c, cur, h1, h2, ?_, h4⟩⟩
    have := hb g (by rw [h1]; rfl)
    rw [Below.heap_setCell _ _ _ _ (by simpa using fun q => this q.symm)]
    exact h3
end Go.Proofs.Ythdhjjbgegcncaa
