/- A slice of boxes of the call's own: a row of boxes read in memory at its end. -/
import Derived.Test.YtakfohcnclmkbaaOwnB
import Derived.Laws.OwnMore
import Derived.Deep.AppendLies
namespace Go.Proofs.Ytakfohcnclmkbaa
open Go.RowKit
set_option linter.unusedVariables false
set_option linter.unusedSimpArgs false

/-- The cells of the boxes lie from o on. -/
def CellsB (w : World) (g o : Nat) (rows : List BxR) : Prop := ∀ q u, (bcells rows)[q]? = some u → w.cell? ⟨g, o + q, none⟩ = some u
theorem CellsB.below {w w' : World} {g o : Nat} {rows : List BxR} (h : CellsB w g o rows) (hb : Below w.heap.size w w') : CellsB w' g o rows := fun q u hu =>
  (hb.cell (World.block_lt_of_cell? w _ (h q u hu))).trans (h q u hu)
theorem bcells_app (l m : List BxR) : bcells (l ++ m) = bcells l ++ bcells m := by simp [bcells]
theorem CellsB.take {w : World} {g o : Nat} {rows : List BxR} (h : CellsB w g o rows) (k : Nat) : CellsB w g o (rows.take k) := fun q u hu => by
  refine h q u ?_
  have e : bcells rows = bcells (rows.take k) ++ bcells (rows.drop k) := by rw [← bcells_app, List.take_append_drop]
  rw [e, List.getElem?_append_left (List.getElem?_eq_some_iff.1 hu).1]
  exact hu
theorem CellsB.drop {w : World} {g o : Nat} {rows : List BxR} (h : CellsB w g o rows) (k : Nat) (hk : k ≤ rows.length) : CellsB w g (o + k * 2) (rows.drop k) := fun q u hu => by
  have e : bcells rows = bcells (rows.take k) ++ bcells (rows.drop k) := by rw [← bcells_app, List.take_append_drop]
  have hl : (bcells (rows.take k)).length = k * 2 := by rw [bcells_len, List.length_take, Nat.min_eq_left hk]
  rw [Nat.add_assoc]
  refine h (k * 2 + q) u ?_
  rw [e, List.getElem?_append_right (by omega), hl, show k * 2 + q - k * 2 = q by omega]
  exact hu
/-- Boxes that read from memory lie there, cell by cell. -/
theorem Bxs.rows {w : World} {a : Option Addr} {n c : Nat} {l : List Bx} (h : Bxs w (.slice a n c) l) (hl : l ≠ []) :
    ∃ g o rows, a = some ⟨g, o, none⟩ ∧ rows.map Prod.fst = l ∧ CellsB w g o rows ∧ ∀ r ∈ rows, Ints w (bsl r) r.1.2 := by
  obtain ⟨a', c', he, hh⟩ := h
  injection he with he1 he2 he3
  subst he1
  obtain ⟨g, o, rfl, hc⟩ := hh hl
  have hx : ∀ i : Fin l.length, ∃ q : Option Addr × Nat, BxAt w g (o + i.1 * 2) (l.getD i.1 bxD) q.1 q.2 := fun i => by
    obtain ⟨ra, rc, hb⟩ := hc i.1 i.2
    exact ⟨(ra, rc), hb⟩
  obtain ⟨f, hf⟩ := Classical.axiomOfChoice hx
  refine ⟨g, o, List.ofFn (fun i : Fin l.length => (l[i.1], f i)), rfl, ?_, ?_, ?_⟩
  · refine List.ext_getElem (by simp) fun i h1 h2 => by simp
  · have key : ∀ (i m : Nat) (u : Value), i < l.length → m < 2 → (bcells (List.ofFn (fun i : Fin l.length => (l[i.1], f i))))[i * 2 + m]? = some u → w.cell? ⟨g, o + (i * 2 + m), none⟩ = some u := by
      intro i m u hi hm hu
      rw [bcells_at _ i m (by rw [List.length_ofFn]; exact hi) hm, List.getElem_ofFn] at hu
      obtain ⟨h0, h1, _⟩ := hf ⟨i, hi⟩
      have e : l.getD i bxD = l[i] := by rw [List.getD_eq_getElem?_getD, List.getElem?_eq_getElem hi]; rfl
      simp only [e] at h0 h1
      have hm' : m = 0 ∨ m = 1 := by omega
      rcases hm' with rfl | rfl
      · have hu' : u = .int .i64 l[i].1 := by simpa [bcell] using hu.symm
        rw [hu', Nat.add_zero]
        exact h0
      · have hu' : u = .slice (f ⟨i, hi⟩).1 l[i].2.length (f ⟨i, hi⟩).2 := by simpa [bcell, bsl] using hu.symm
        rw [hu', ← Nat.add_assoc]
        exact h1
    intro q u hu
    have hq : q < l.length * 2 := by
      have := (List.getElem?_eq_some_iff.1 hu).1
      rw [bcells_len, List.length_ofFn] at this
      exact this
    have := key (q / 2) (q % 2) u (by omega) (by omega)
    rw [show q / 2 * 2 + q % 2 = q by omega] at this
    exact this hu
  · intro r hr
    obtain ⟨i, rfl⟩ := List.mem_ofFn.1 hr
    have e : l.getD i.1 bxD = l[i.1] := by rw [List.getD_eq_getElem?_getD, List.getElem?_eq_getElem i.2]; rfl
    have := (hf i).2.2
    rw [e] at this
    exact this
theorem one_bcells (l : List BxR) : ∀ u ∈ bcells l, u.oneCell' = true := by
  intro u hu
  obtain ⟨r, _, hr⟩ := List.mem_flatMap.1 hu
  simp [bcell, bsl] at hr
  rcases hr with rfl | rfl <;> rfl
/-- What an append of a part of a row of boxes asks. -/
def SrcB (w : World) (ao : Option Addr) (m : List BxR) : Prop := ∃ ad : Addr, ao = some ad ∧ (m ≠ [] → ∃ g o, ad = ⟨g, o, none⟩ ∧ CellsB w g o m)
theorem step_append_bx (w : World) {ops : Array Oper} {o : Oper} {a : Act} {K : Act → World → Prop} {Q : Exit → Act → World → Prop} {E : Prop} (hgd : o.guard = none) (s x : Operand)
    (ho : o.op = .call { callee := .builtin .append, args := #[s, x], argTypes := #[23, 23] })
    (B : Nat) (v : Value) (l m : List BxR) (hs : a.eval s = v) (hown : OwnB w B v l) (ao : Option Addr) (n c : Nat) (hx : a.eval x = .slice ao n c) (hn : m.length = n)
    (hm : SrcB w ao m) (hlen : l.length + m.length ≤ 8388608) (hB : B ≤ w.heap.size)
    (h : ∀ aa nn cc w', OwnB w' B (.slice aa nn cc) (l ++ m) → w.grownBy w' v.ownBlock → K (a.put o.dst (.slice aa nn cc)) w') :
    if Region.wanted o (yielded ops a.tmps) = true then Oper.wp Try.prog o a w K Q else E := by
  have hw : Region.wanted o (yielded ops a.tmps) = true := by simp [Region.wanted, hgd]
  rw [if_pos hw]
  subst hn
  obtain ⟨i0, hi, hz0, hz1, hz2⟩ := info_parts try_infoBox
  obtain ⟨ad, rfl, hm⟩ := hm
  have key : ∀ j u, (bcells m)[j]? = some u → w.cell? (ad.add j) = some u := by
    intro j u hu
    by_cases h0 : m = []
    · subst h0; simp [bcells] at hu
    · obtain ⟨g, oo, rfl, hc⟩ := hm h0
      rw [Addr.add_lit]
      exact hc j u hu
  refine wp_append_own (w := w) s x 23 ho B 31 i0 (.agg #[.int .i64 0, .slice none 0 0]) 2 32 Try.underlying23 hi hz0 hz1 hz2 rfl (by decide) v l.length (bcells l) hs hown ad m.length c (bcells m) hx (bcells_len m) key (one_bcells m) (by unfold maxLen; omega) (by omega) hB ?_
  intro v' w' h1 h2 h3
  have h1 : OwnB w' B v' (l ++ m) := by unfold OwnB; rw [List.length_append, bcells_app]; exact h1
  obtain ⟨aa, cc, rfl⟩ := ownsRow_shape h1
  exact h aa _ cc w' h1 h2
theorem srcB_take {w w' : World} {g o : Nat} {rows : List BxR} (h : CellsB w g o rows) (hb : Below w.heap.size w w') (k : Nat) : SrcB w' (some ⟨g, o, none⟩) (rows.take k) :=
  ⟨_, rfl, fun _ => ⟨g, o, rfl, (h.below hb).take k⟩⟩
theorem srcB_drop {w w' : World} {g o : Nat} {rows : List BxR} (h : CellsB w g o rows) (hb : Below w.heap.size w w') (j c : Nat) (hj : j ≤ rows.length) (hc : rows.length ≤ c) :
    SrcB w' (if c = j then some ⟨g, o, none⟩ else some ⟨g, o + j * 2, none⟩) (rows.drop j) := by
  by_cases h0 : j < rows.length
  · rw [if_neg (by omega)]
    exact ⟨_, rfl, fun _ => ⟨g, o + j * 2, rfl, (h.below hb).drop j hj⟩⟩
  · have hn : rows.drop j = [] := List.drop_eq_nil_iff.2 (by omega)
    rw [hn]
    split
    · exact ⟨_, rfl, fun h => absurd rfl h⟩
    · exact ⟨_, rfl, fun h => absurd rfl h⟩
theorem grownB_kept {w W W' : World} {v : Value} {l : List BxR} (h : Below w.heap.size w W) (ho : OwnB W w.heap.size v l) (hg : W.grownBy W' v.ownBlock) : Below w.heap.size w W' :=
  h.grown hg h.size (fun j hj => (World.ownsRow.lt ho j hj).1)

end Go.Proofs.Ytakfohcnclmkbaa
