/- A row of pieces that may be nil. -/
import Derived.Test.YthdhjjbgegcncaaQc
namespace Go.Proofs.Ythdhjjbgegcncaa
open Go.RowKit
set_option linter.unusedVariables false
set_option linter.unusedSimpArgs false

/-- A row of pieces; nil where it is empty, too. -/
def Pcn (w : World) (v : Value) (l : List Pc) : Prop :=
  ∃ (a : Option Addr) (c : Nat), v = .slice a l.length c ∧ (l ≠ [] → ∃ g o, a = some ⟨g, o, none⟩ ∧ ∀ i, i < l.length → w.cell? ⟨g, o + i * 2, none⟩ = some (.int .i64 (l.getD i pc0).1) ∧ w.cell? ⟨g, o + i * 2 + 1, none⟩ = some (.string (l.getD i pc0).2))
theorem Pcs.n {w : World} {v : Value} {l : List Pc} (h : Pcs w v l) : Pcn w v l := by
  obtain ⟨g, o, c, rfl, _, hc⟩ := h
  exact ⟨_, c, rfl, fun _ => ⟨g, o, rfl, hc⟩⟩
theorem Pcn.nil (w : World) : Pcn w (.slice none 0 0) [] := ⟨none, 0, rfl, fun h => absurd rfl h⟩
theorem Pcn.below {w w' : World} {v : Value} {l : List Pc} (h : Pcn w v l) (hb : Below w.heap.size w w') : Pcn w' v l := by
  obtain ⟨a, c, rfl, hc⟩ := h
  refine ⟨a, c, rfl, fun hn => ?_⟩
  obtain ⟨g, o, e, hk⟩ := hc hn
  exact ⟨g, o, e, fun i hi => ⟨(hb.cell (World.block_lt_of_cell? w _ (hk i hi).1)).trans (hk i hi).1, (hb.cell (World.block_lt_of_cell? w _ (hk i hi).2)).trans (hk i hi).2⟩⟩
end Go.Proofs.Ythdhjjbgegcncaa
