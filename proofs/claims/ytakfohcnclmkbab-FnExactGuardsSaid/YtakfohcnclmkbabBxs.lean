/- Lists of boxes in memory, read. -/
import Derived.Test.YtakfohcnclmkbabSecMath
import Derived.Test.YtakfohcnclmkbabInts
import Derived.Deep.RegionHeld3
import Derived.IntWalk
namespace Go.Proofs.Ytakfohcnclmkbab
open Go.RowKit
set_option linter.unusedVariables false
set_option linter.unusedSimpArgs false

/-- The two cells of a box, its atoms readable. -/
def BxAt (w : World) (g o : Nat) (b : Bx) (ra : Option Addr) (rc : Nat) : Prop :=
  w.cell? ⟨g, o, none⟩ = some (.int .i64 b.1) ∧ w.cell? ⟨g, o + 1, none⟩ = some (.slice ra b.2.length rc) ∧ Ints w (.slice ra b.2.length rc) b.2
def bxD : Bx := (0, [])
def Bxs (w : World) (v : Value) (l : List Bx) : Prop :=
  ∃ a c, v = .slice a l.length c ∧ (l ≠ [] → ∃ g o, a = some ⟨g, o, none⟩ ∧ ∀ i, i < l.length → ∃ ra rc, BxAt w g (o + i * 2) (l.getD i bxD) ra rc)
theorem BxAt.below {w w' : World} {g o : Nat} {b : Bx} {ra : Option Addr} {rc : Nat} (h : BxAt w g o b ra rc) (hb : Below w.heap.size w w') : BxAt w' g o b ra rc := by
  obtain ⟨h0, h1, h2⟩ := h
  have hl : g < w.heap.size := World.block_lt_of_cell? w _ h0
  exact ⟨(hb.cell hl).trans h0, (hb.cell hl).trans h1, h2.below hb⟩
theorem Bxs.below {w w' : World} {v : Value} {l : List Bx} (h : Bxs w v l) (hb : Below w.heap.size w w') : Bxs w' v l := by
  obtain ⟨a, c, rfl, h⟩ := h
  refine ⟨a, c, rfl, fun hx => ?_⟩
  obtain ⟨g, o, rfl, hc⟩ := h hx
  exact ⟨g, o, rfl, fun i hi => by obtain ⟨ra, rc, hf⟩ := hc i hi; exact ⟨ra, rc, hf.below hb⟩⟩
theorem takeB (l : List Bx) (j : Nat) (h : j < l.length) : l.take (j + 1) = l.take j ++ [l.getD j bxD] ∧ l.getD j bxD ∈ l := by
  have e : l.getD j bxD = l[j] := by rw [List.getD_eq_getElem?_getD, List.getElem?_eq_getElem h]; rfl
  rw [e]
  exact ⟨List.take_succ_eq_append_getElem h, List.getElem_mem h⟩
theorem takeI (l : List Int) (j : Nat) (h : j < l.length) : l.take (j + 1) = l.take j ++ [l.getD j 0] ∧ l.getD j 0 ∈ l := by
  have e : l.getD j 0 = l[j] := by rw [List.getD_eq_getElem?_getD, List.getElem?_eq_getElem h]; rfl
  rw [e]
  exact ⟨List.take_succ_eq_append_getElem h, List.getElem_mem h⟩
theorem notin_take {l : List Int} {n : Int} {j : Nat} (h : j < l.length) (h0 : n ∉ l.take j) (h1 : l.getD j 0 ≠ n) : n ∉ l.take (j + 1) := by
  rw [(takeI l j h).1, List.mem_append]
  rintro (h | h)
  · exact h0 h
  · exact h1 (List.mem_singleton.1 h).symm

theorem Ints.cells {w : World} {ra : Option Addr} {n rc : Nat} {xs : List Int} (h : Ints w (.slice ra n rc) xs) (hx : xs ≠ []) : ∃ g o, ra = some ⟨g, o, none⟩ ∧ ∀ i, i < xs.length → w.cell? ⟨g, o + i, none⟩ = some (.int .i64 (xs.getD i 0)) := by
  obtain ⟨a, c, he, hh⟩ := h
  injection he with he1 he2 he3
  subst he1
  exact hh hx
theorem BoolPost' {w w' : World} {b c : Bool} (h : b = c) (hb : Below w.heap.size w w') : Ending.returned (.bool b) = .returned (.bool c) ∧ Below w.heap.size w w' := ⟨by rw [h], hb⟩

end Go.Proofs.Ytakfohcnclmkbab
