/- Pieces of a stream: how they lie. -/
import Derived.Test.YthdhjjbgegcncaaOwn
import Derived.Test.YthdhjjbgegcncaaFrm
import Derived.Maps.AppendAt
namespace Go.Proofs.Ythdhjjbgegcncaa
open Go.RowKit
set_option linter.unusedVariables false
set_option linter.unusedSimpArgs false

/-- A piece: its offset and its data. -/
abbrev Pc := Int × ByteArray
def pc0 : Pc := (0, ⟨#[]⟩)
def pcells (l : List Pc) : List Value := l.flatMap fun p => [.int .i64 p.1, .string p.2]
theorem pcells_len (l : List Pc) : (pcells l).length = l.length * 2 := by
  induction l with
  | nil => rfl
  | cons r t ih => simp [pcells] at ih ⊢; omega
theorem pcells_snoc (l : List Pc) (a : Int) (d : ByteArray) : pcells (l ++ [(a, d)]) = pcells l ++ [.int .i64 a, .string d] := by simp [pcells]
theorem try_infoPiece : (Try.prog.info? 51).map (fun i => (i.zero, i.size, i.bytes)) = some (some (.agg #[.int .i64 0, .string ⟨#[]⟩]), 2, 24) := by kernel_rfl
theorem onep (a : Int) (d : ByteArray) : ∀ u ∈ [Value.int .i64 a, Value.string d], u.oneCell' = true := by
  intro u hu
  simp at hu
  rcases hu with rfl | rfl <;> rfl
/-- Pieces in memory that is read; never the nil slice. -/
def Pcs (w : World) (v : Value) (l : List Pc) : Prop :=
  ∃ g o c, v = .slice (some ⟨g, o, none⟩) l.length c ∧ l.length ≤ c ∧ ∀ i, i < l.length → w.cell? ⟨g, o + i * 2, none⟩ = some (.int .i64 (l.getD i pc0).1) ∧ w.cell? ⟨g, o + i * 2 + 1, none⟩ = some (.string (l.getD i pc0).2)
theorem Pcs.below {w w' : World} {v : Value} {l : List Pc} (h : Pcs w v l) (hb : Below w.heap.size w w') : Pcs w' v l := by
  obtain ⟨g, o, c, rfl, hc0, hc⟩ := h
  exact ⟨g, o, c, rfl, hc0, fun i hi => ⟨(hb.cell (World.block_lt_of_cell? w _ (hc i hi).1)).trans (hc i hi).1, (hb.cell (World.block_lt_of_cell? w _ (hc i hi).2)).trans (hc i hi).2⟩⟩
/-- Pieces of the call's own. -/
def OwnPc (w : World) (B : Nat) (v : Value) (l : List Pc) : Prop := w.ownsRow B 51 2 v l.length (pcells l)
theorem pcells_at : ∀ (l : List Pc) (i : Nat), i < l.length → (pcells l)[i * 2]? = some (.int .i64 (l.getD i pc0).1) ∧ (pcells l)[i * 2 + 1]? = some (.string (l.getD i pc0).2)
  | [], i, h => by simp at h
  | r :: t, 0, _ => by simp [pcells]
  | r :: t, i + 1, h => by
    have ih := pcells_at t i (by simpa using h)
    have e : pcells (r :: t) = .int .i64 r.1 :: .string r.2 :: pcells t := by simp [pcells]
    rw [e, show (i + 1) * 2 = i * 2 + 1 + 1 from by omega, show i * 2 + 1 + 1 + 1 = (i * 2 + 1) + 1 + 1 from by omega]
    simpa using ih
theorem OwnPc.sl {w : World} {B : Nat} {v : Value} {l : List Pc} (h : OwnPc w B v l) (hv : v ≠ .slice none 0 0) : ∃ g c, v = .slice (some ⟨g, 0, none⟩) l.length c ∧ l.length ≤ c ∧ B ≤ g ∧ g < w.heap.size := by
  have h' := h
  unfold OwnPc at h
  obtain ⟨_, ⟨rfl, h0⟩ | ⟨g, c, cur, rfl, hB, _, hnc, _⟩⟩ := h
  · exact absurd rfl hv
  · exact ⟨g, c, rfl, hnc, hB, (World.ownsRow.lt h' g rfl).2⟩
theorem Pcs.of_own {w : World} {B : Nat} {v : Value} {l : List Pc} (h : OwnPc w B v l) (hv : v ≠ .slice none 0 0) : Pcs w v l := by
  obtain ⟨g, c, rfl, hnc, _⟩ := h.sl hv
  unfold OwnPc at h
  refine ⟨g, 0, c, rfl, hnc, fun i hi => ?_⟩
  obtain ⟨r1, r2⟩ := pcells_at l i hi
  have c1 := h.cellAt (i * 2) (by omega)
  have c2 := h.cellAt (i * 2 + 1) (by omega)
  rw [r1] at c1
  rw [r2] at c2
  rw [Nat.zero_add]
  exact ⟨c1, c2⟩
theorem Pcs.news {w : World} {g o n c : Nat} {l : List Pc} (h : Pcs w (.slice (some ⟨g, o, none⟩) n c) l) : ∀ j u, (pcells l)[j]? = some u → w.cell? ((⟨g, o, none⟩ : Addr).add j) = some u := by
  obtain ⟨g', o', c', he, hnc, hc⟩ := h
  injection he with e1 e2 e3
  injection e1 with e1
  injection e1 with e1 e4
  subst e1 e4
  intro j u hj
  have hjl := (List.getElem?_eq_some_iff.1 hj).1
  rw [pcells_len] at hjl
  have ea : ((⟨g, o, none⟩ : Addr).add j) = ⟨g, o + j, none⟩ := by
    unfold Addr.add; split
    · rename_i h0; rw [h0]; rfl
    · rfl
  rw [ea]
  obtain ⟨r1, r2⟩ := pcells_at l (j / 2) (by omega)
  obtain ⟨c1, c2⟩ := hc (j / 2) (by omega)
  rcases Nat.mod_two_eq_zero_or_one j with hm | hm
  · have e : j / 2 * 2 = j := by omega
    rw [e] at r1 c1
    rw [r1] at hj; injection hj with hj; rw [← hj]; exact c1
  · have e : j / 2 * 2 + 1 = j := by omega
    rw [e] at r2
    rw [show o + j / 2 * 2 + 1 = o + j by omega] at c2
    rw [r2] at hj; injection hj with hj; rw [← hj]; exact c2
theorem pcells_one (l : List Pc) : ∀ u ∈ pcells l, u.oneCell' = true := by
  intro u hu
  obtain ⟨p, _, hu⟩ := List.mem_flatMap.1 hu
  exact onep _ _ u hu
theorem pcells_set (l0 : List Pc) (x : Int) (d e : ByteArray) : (pcells (l0 ++ [(x, d)])).set (l0.length * 2 + 1) (.string e) = pcells (l0 ++ [(x, e)]) := by
  rw [pcells_snoc, pcells_snoc, List.set_append_right _ _ (by rw [pcells_len]; omega), pcells_len, show l0.length * 2 + 1 - l0.length * 2 = 1 by omega]
  rfl
theorem OwnPc.below {w w' : World} {B : Nat} {v : Value} {l : List Pc} (h : OwnPc w B v l) (hb : Below w.heap.size w w') : OwnPc w' B v l := own_below h hb
theorem OwnPc.lower {w : World} {B B' : Nat} {v : Value} {l : List Pc} (h : OwnPc w B v l) (hB : B' ≤ B) : OwnPc w B' v l := by
  obtain ⟨h0, h | ⟨g, c, cur, h1, h2, h3⟩⟩ := h
  · exact ⟨h0, .inl h⟩
  · exact ⟨h0, .inr ⟨g, c, cur, h1, by omega, h3⟩⟩
theorem ownpc_snoc {w : World} {B : Nat} {v : Value} {l : List Pc} {a : Int} {d : ByteArray} (h : w.ownsRow B 51 2 v (l.length + 1) (pcells l ++ [.int .i64 a, .string d])) : OwnPc w B v (l ++ [(a, d)]) := by
  unfold OwnPc
  rw [pcells_snoc, List.length_append]
  exact h
/-- Every piece lies in lo .. 30. -/
def POk (lo : Int) (l : List Pc) : Prop := ∀ p ∈ l, lo ≤ p.1 ∧ p.1 + (p.2.size : Int) ≤ 30
theorem POk.at {lo : Int} {l : List Pc} (h : POk lo l) (i : Nat) (hi : i < l.length) : lo ≤ (l.getD i pc0).1 ∧ (l.getD i pc0).1 + ((l.getD i pc0).2.size : Int) ≤ 30 := by
  have e : l.getD i pc0 = l[i] := by rw [List.getD_eq_getElem?_getD, List.getElem?_eq_getElem hi]; rfl
  rw [e]; exact h _ (List.getElem_mem hi)
theorem map_set (xs : List Int) (i : Nat) (v : Int) : (xs.map (Value.int .i64)).set i (.int .i64 v) = (xs.set i v).map (Value.int .i64) := by
  rw [List.map_set]
theorem frm_at {w : World} {g : Nat} {xs : List Int} (h : Frm w g (xs.map (Value.int .i64))) (i : Nat) (hi : i < xs.length) : w.cell? ⟨g, i, none⟩ = some (.int .i64 (xs.getD i 0)) := by
  rw [h i, List.getElem?_map, List.getD_eq_getElem?_getD, List.getElem?_eq_getElem hi]; rfl

end Go.Proofs.Ythdhjjbgegcncaa
