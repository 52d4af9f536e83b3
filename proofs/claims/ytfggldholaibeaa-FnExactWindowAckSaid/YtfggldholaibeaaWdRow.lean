/- Slices of windows: what they hold, rows of the call's own, append. -/
import Derived.Test.YtfggldholaibeaaWdMath
import Derived.Test.YtfggldholaibeaaOwn
import Derived.WalkSmall
import Derived.Deep.RegionLaw
import Derived.Maps.AppendAt
import Derived.Laws.OwnMore
import Derived.Lib.BufferWrite
namespace Go.Proofs.Ytfggldholaibeaa
open Go.RowKit
set_option linter.unusedVariables false
set_option linter.unusedSimpArgs false

/-- The four cells of a window. -/
def wcell (r : Wd) : List Value := [.int .i64 r.1, .int .i64 r.2.1, .int .i64 r.2.2.1, .int .i64 r.2.2.2]
def wcells (l : List Wd) : List Value := l.flatMap wcell
theorem wcells_len (l : List Wd) : (wcells l).length = l.length * 4 := by
  induction l with
  | nil => rfl
  | cons r t ih => simp [wcells, wcell] at ih ⊢; omega
theorem wcells_app (l m : List Wd) : wcells (l ++ m) = wcells l ++ wcells m := by simp [wcells]
theorem wcells_snoc (l : List Wd) (r : Wd) : wcells (l ++ [r]) = wcells l ++ wcell r := by simp [wcells]
theorem wcells_one (l : List Wd) : ∀ u ∈ wcells l, u.oneCell' = true := by
  intro u hu
  obtain ⟨r, _, hr⟩ := List.mem_flatMap.1 hu
  simp [wcell] at hr
  rcases hr with rfl | rfl | rfl | rfl <;> rfl
theorem wcells_at : ∀ (l : List Wd) (i j : Nat) (h : i < l.length), j < 4 → (wcells l)[i * 4 + j]? = (wcell l[i])[j]?
  | [], i, j, h, _ => by simp at h
  | r :: t, 0, j, _, hj => by
    simp only [wcells, List.flatMap_cons, List.getElem_cons_zero, Nat.zero_mul, Nat.zero_add]
    rw [List.getElem?_append_left (by simp [wcell]; omega)]
  | r :: t, i + 1, j, h, hj => by
    have ih := wcells_at t i j (by simpa using h) hj
    have e : wcells (r :: t) = wcell r ++ wcells t := by simp [wcells]
    rw [e, List.getElem?_append_right (by simp [wcell]; omega), show (i + 1) * 4 + j - (wcell r).length = i * 4 + j by simp [wcell]; omega, ih]
    rfl
theorem try_infoW : (Try.prog.info? 35).map (fun i => (i.zero, i.size, i.bytes)) = some (some (.agg #[.int .i64 0, .int .i64 0, .int .i64 0, .int .i64 0]), 4, 32) := by kernel_rfl

/-- A packet's cells at an address. -/
def WdAt (w : World) (g o : Nat) (p : Wd) : Prop := w.cell? ⟨g, o, none⟩ = some (.int .i64 p.1) ∧ w.cell? ⟨g, o + 1, none⟩ = some (.int .i64 p.2.1) ∧ w.cell? ⟨g, o + 2, none⟩ = some (.int .i64 p.2.2.1) ∧ w.cell? ⟨g, o + 3, none⟩ = some (.int .i64 p.2.2.2)
theorem WdAt.below {w w' : World} {g o : Nat} {p : Wd} (h : WdAt w g o p) {B : Nat} (hb : Below B w w') (hB : g < B) : WdAt w' g o p :=
  ⟨(hb.cell (p := ⟨g, o, none⟩) hB).trans h.1, (hb.cell (p := ⟨g, o + 1, none⟩) hB).trans h.2.1, (hb.cell (p := ⟨g, o + 2, none⟩) hB).trans h.2.2.1, (hb.cell (p := ⟨g, o + 3, none⟩) hB).trans h.2.2.2⟩
theorem WdAt.lt {w : World} {g o : Nat} {p : Wd} (h : WdAt w g o p) : g < w.heap.size := World.block_lt_of_cell? w _ h.1
/-- A slice whose elements read as the packets l. -/
def Wds (w : World) (v : Value) (l : List Wd) : Prop :=
  ∃ a c, v = .slice a l.length c ∧ l.length ≤ c ∧ (l ≠ [] → ∃ g o, a = some ⟨g, o, none⟩ ∧ ∀ i, i < l.length → WdAt w g (o + i * 4) (l.getD i wdD))
theorem Wds.below {w w' : World} {v : Value} {l : List Wd} (h : Wds w v l) (hb : Below w.heap.size w w') : Wds w' v l := by
  obtain ⟨a, c, rfl, hc, h⟩ := h
  refine ⟨a, c, rfl, hc, fun hx => ?_⟩
  obtain ⟨g, o, rfl, hc⟩ := h hx
  exact ⟨g, o, rfl, fun i hi => (hc i hi).below hb (hc i hi).lt⟩
/-- A list of the call's own. -/
def OwnW (w : World) (B : Nat) (v : Value) (l : List Wd) : Prop := w.ownsRow B 35 4 v l.length (wcells l)
theorem OwnW.new (B : Nat) (w : World) (h : B ≤ w.heap.size) : OwnW (w.alloc (.cells #[] 35)) B (.slice (some ⟨w.heap.size, 0, none⟩) 0 0) [] := own_new _ 4 B w h
theorem OwnW.nil (w : World) (B : Nat) : OwnW w B (.slice none 0 0) [] := ⟨rfl, .inl ⟨rfl, rfl⟩⟩
theorem OwnW.below {w w' : World} {B : Nat} {v : Value} {l : List Wd} (h : OwnW w B v l) (hb : Below w.heap.size w w') : OwnW w' B v l := own_below h hb
theorem OwnW.shape {w : World} {B : Nat} {v : Value} {l : List Wd} (h : OwnW w B v l) : ∃ a c, v = .slice a l.length c := ownsRow_shape h
theorem OwnW.lower {w : World} {B B' : Nat} {v : Value} {l : List Wd} (h : OwnW w B v l) (hB : B' ≤ B) : OwnW w B' v l := by
  obtain ⟨h0, h | ⟨g, c, cur, h1, h2, h3⟩⟩ := h
  · exact ⟨h0, .inl h⟩
  · exact ⟨h0, .inr ⟨g, c, cur, h1, by omega, h3⟩⟩
theorem OwnW.far {w : World} {B b i : Nat} {v u : Value} {l : List Wd} (h : OwnW w B v l) (hn : v.ownBlock ≠ some b) : OwnW (w.setCell ⟨b, i, none⟩ u) B v l :=
  World.ownsRow.kept h (Lib.grownBy_setCell w b i u) (by cases hq : v.ownBlock with | none => exact .inl rfl | some g => exact .inr (by rw [← hq]; exact hn))
theorem OwnW.pks {w : World} {B : Nat} {v : Value} {l : List Wd} (h : OwnW w B v l) : Wds w v l := by
  have h' := h
  obtain ⟨_, ⟨rfl, h0⟩ | ⟨g, c, cur, rfl, _, _, hc, _⟩⟩ := h
  · exact ⟨none, 0, by rw [h0], by omega, fun hx => absurd (List.length_eq_zero_iff.1 h0) hx⟩
  · refine ⟨some ⟨g, 0, none⟩, c, rfl, by omega, fun _ => ⟨g, 0, rfl, fun i hi => ?_⟩⟩
    have e : l.getD i wdD = l[i] := by rw [List.getD_eq_getElem?_getD, List.getElem?_eq_getElem hi]; rfl
    have hc : ∀ j, j < 4 → w.cell? ⟨g, i * 4 + j, none⟩ = (wcell l[i])[j]? := fun j hj => (World.ownsRow.cellAt h' (i * 4 + j) (by omega)).trans (wcells_at l i j hi hj)
    rw [e, Nat.zero_add]
    exact ⟨hc 0 (by omega), hc 1 (by omega), hc 2 (by omega), hc 3 (by omega)⟩

/-- The cells of a part of a row. -/
def CellsW (w : World) (g o : Nat) (m : List Wd) : Prop := ∀ q u, (wcells m)[q]? = some u → w.cell? ⟨g, o + q, none⟩ = some u
theorem CellsW.below {w w' : World} {g o : Nat} {m : List Wd} (h : CellsW w g o m) (hb : Below w.heap.size w w') : CellsW w' g o m := fun q u hu =>
  (hb.cell (World.block_lt_of_cell? w _ (h q u hu))).trans (h q u hu)
theorem Wds.cells {w : World} {g o c n : Nat} {l : List Wd} (h : Wds w (.slice (some ⟨g, o, none⟩) n c) l) : CellsW w g o l := fun q u hu => by
  obtain ⟨a, c', e, _, h⟩ := h
  have hq : q < l.length * 4 := by rw [← wcells_len]; exact (List.getElem?_eq_some_iff.1 hu).1
  obtain ⟨g', o', e2, hc⟩ := h (by rintro rfl; simp at hq)
  simp only [Value.slice.injEq] at e
  rw [← e.1] at e2
  simp only [Option.some.injEq, Addr.mk.injEq] at e2
  obtain ⟨rfl, rfl, _⟩ := e2
  have hi : q / 4 < l.length := by omega
  have hq3 : q = q / 4 * 4 + q % 4 := by omega
  have hj : q % 4 < 4 := Nat.mod_lt _ (by omega)
  rw [hq3, wcells_at l (q / 4) (q % 4) hi hj] at hu
  have ee : l.getD (q / 4) wdD = l[q / 4] := by rw [List.getD_eq_getElem?_getD, List.getElem?_eq_getElem hi]; rfl
  obtain ⟨c0, c1, c2, c3⟩ := hc (q / 4) hi
  rw [ee] at c0 c1 c2 c3
  rw [hq3]
  rcases (by omega : q % 4 = 0 ∨ q % 4 = 1 ∨ q % 4 = 2 ∨ q % 4 = 3) with h3 | h3 | h3 | h3 <;> rw [h3] at hu ⊢
  · rw [← hu]; exact c0
  · rw [← hu, ← Nat.add_assoc]; exact c1
  · rw [← hu, ← Nat.add_assoc]; exact c2
  · rw [← hu, ← Nat.add_assoc]; exact c3
/-- What an append of a row of packets asks. -/
def SrcW (w : World) (v : Value) (m : List Wd) : Prop :=
  (v = .slice none 0 0 ∧ m = []) ∨ ∃ ad c, v = .slice (some ad) m.length c ∧ (m ≠ [] → ∃ g o, ad = ⟨g, o, none⟩ ∧ CellsW w g o m)
theorem SrcW.below {w w' : World} {v : Value} {m : List Wd} (h : SrcW w v m) (hb : Below w.heap.size w w') : SrcW w' v m := by
  rcases h with h | ⟨ad, c, rfl, h⟩
  · exact .inl h
  · exact .inr ⟨ad, c, rfl, fun hx => by obtain ⟨g, o, rfl, hc⟩ := h hx; exact ⟨g, o, rfl, hc.below hb⟩⟩
/-- A slice that came in, or that a call handed back: not half nil. -/
def NilOk (v : Value) : Prop := v.ownBlock ≠ none ∨ v = .slice none 0 0
theorem SrcW.of {w : World} {v : Value} {l : List Wd} (h : Wds w v l) (hn : NilOk v) : SrcW w v l := by
  obtain ⟨a, c, rfl, hcc, hh⟩ := h
  cases a with
  | none =>
    have e := hn.resolve_left (fun k => k rfl)
    simp only [Value.slice.injEq, true_and] at e
    obtain ⟨e1, rfl⟩ := e
    exact .inl ⟨by rw [e1], List.length_eq_zero_iff.1 e1⟩
  | some ad => exact .inr ⟨ad, c, rfl, fun hx => by
      obtain ⟨g, o, e, hc⟩ := hh hx
      injection e with e
      subst e
      exact ⟨g, o, rfl, Wds.cells (c := c) (n := l.length) ⟨_, c, rfl, hcc, fun _ => ⟨g, o, rfl, hc⟩⟩⟩⟩
theorem SrcW.new (w : World) (p : Wd) (T : TypeId) : SrcW (w.alloc (.cells #[.int .i64 p.1, .int .i64 p.2.1, .int .i64 p.2.2.1, .int .i64 p.2.2.2] T)) (.slice (some ⟨w.heap.size, 0, none⟩) 1 1) [p] :=
  .inr ⟨⟨w.heap.size, 0, none⟩, 1, rfl, fun _ => ⟨w.heap.size, 0, rfl, fun q u hu => by
    rw [Nat.zero_add, World.cell?_alloc_mark]
    simpa [wcells, wcell] using hu⟩⟩
theorem OwnW.nilok {w : World} {B : Nat} {v : Value} {l : List Wd} (h : OwnW w B v l) : NilOk v := by
  obtain ⟨h0, ⟨h1, _⟩ | ⟨g, c, cur, he, _⟩⟩ := h
  · exact .inr h1
  · left; rw [he]; simp [Value.ownBlock]

theorem append_wd (w : World) (ty : TypeId) (B : Nat) (v : Value) (l m : List Wd) (hown : OwnW w B v l) (u : Value) (hm : SrcW w u m) (hlen : l.length + m.length ≤ 2097152) (hB : B ≤ w.heap.size) :
    ∃ v' w', (Builtin.append_ #[25, 25] ty #[v, u]).run Try.prog w = .ok v' w' ∧ OwnW w' B v' (l ++ m) ∧ w.grownBy w' v.ownBlock ∧ (v'.ownBlock = v.ownBlock ∨ v'.ownBlock = some w.heap.size) ∧ (v' = .slice none 0 0 ↔ v = .slice none 0 0 ∧ m = []) := by
  obtain ⟨i0, hi, hz0, hz1, hz2⟩ := info_parts try_infoW
  rcases hm with ⟨rfl, rfl⟩ | ⟨ad, c, rfl, hm⟩
  · exact ⟨v, w, run_append_owned_none (P := Try.prog) (w := w) B 25 ty 35 i0 4 Try.underlying25 hi v l.length _ hown, by simpa using hown, World.grownBy.refl w _, .inl rfl, by simp⟩
  · have key : ∀ j u, (wcells m)[j]? = some u → w.cell? (ad.add j) = some u := by
      intro j u hu
      by_cases h0 : m = []
      · subst h0; simp [wcells] at hu
      · obtain ⟨g, oo, rfl, hc⟩ := hm h0
        rw [Addr.add_lit]
        exact hc j u hu
    obtain ⟨v', w', hr, h2, h3, h4, h5⟩ := run_append_own_at (P := Try.prog) w B 25 ty 35 i0 (.agg #[.int .i64 0, .int .i64 0, .int .i64 0, .int .i64 0]) 4 32 Try.underlying25 hi hz0 hz1 hz2 rfl (by decide) v l.length (wcells l) hown ad m.length c (wcells m) (wcells_len m) key (wcells_one m) (by unfold maxLen; omega) (by omega) hB
    exact ⟨v', w', hr, by unfold OwnW; rw [List.length_append, wcells_app]; exact h2, h3, h5, by rw [h4, List.length_eq_zero_iff]⟩
theorem step_append_wd (w : World) {ops : Array Oper} {o : Oper} {a : Act} {K : Act → World → Prop} {Q : Exit → Act → World → Prop} {E : Prop} (hgd : o.guard = none) (s x : Operand)
    (ho : o.op = .call { callee := .builtin .append, args := #[s, x], argTypes := #[25, 25] })
    (B : Nat) (v : Value) (l m : List Wd) (hs : a.eval s = v) (hown : OwnW w B v l) (u : Value) (hx : a.eval x = u) (hm : SrcW w u m) (hlen : l.length + m.length ≤ 2097152) (hB : B ≤ w.heap.size)
    (h : ∀ aa nn cc w', OwnW w' B (.slice aa nn cc) (l ++ m) → Hid (nn = (l ++ m).length) → w.grownBy w' v.ownBlock → ((Value.slice aa nn cc).ownBlock = v.ownBlock ∨ (Value.slice aa nn cc).ownBlock = some w.heap.size) → (Value.slice aa nn cc = .slice none 0 0 ↔ v = .slice none 0 0 ∧ m = []) → K (a.put o.dst (.slice aa nn cc)) w') :
    if Region.wanted o (yielded ops a.tmps) = true then Oper.wp Try.prog o a w K Q else E := by
  have hw : Region.wanted o (yielded ops a.tmps) = true := by simp [Region.wanted, hgd]
  rw [if_pos hw]
  obtain ⟨v', w', hr, h1, h2, h3, h4⟩ := append_wd w o.type B v l m hown u hm hlen hB
  unfold Oper.wp execOp
  simp only [ho, resolve, invoke, builtin, Sem.run_bind, Sem.run_pure, Result.andThen_ok, List.map_toArray, List.map_cons, List.map_nil, hs, hx, hr]
  obtain ⟨aa, cc, rfl⟩ := ownsRow_shape h1
  exact h aa _ cc w' h1 rfl h2 h3 h4
/-- .. where the operations stand in the order of the text. -/
theorem wpList_app_wd (w : World) {ops : Array Oper} {rest : List Oper} {o : Oper} {a : Act} {Q : Exit → Act → World → Prop} (hgd : o.guard = none) (s x : Operand)
    (ho : o.op = .call { callee := .builtin .append, args := #[s, x], argTypes := #[25, 25] })
    (B : Nat) (v : Value) (l m : List Wd) (hs : a.eval s = v) (hown : OwnW w B v l) (u : Value) (hx : a.eval x = u) (hm : SrcW w u m) (hlen : l.length + m.length ≤ 2097152) (hB : B ≤ w.heap.size)
    (h : ∀ aa nn cc w', OwnW w' B (.slice aa nn cc) (l ++ m) → Hid (nn = (l ++ m).length) → w.grownBy w' v.ownBlock → ((Value.slice aa nn cc).ownBlock = v.ownBlock ∨ (Value.slice aa nn cc).ownBlock = some w.heap.size) → (Value.slice aa nn cc = .slice none 0 0 ↔ v = .slice none 0 0 ∧ m = []) → wpList Try.prog ops Q rest (a.put o.dst (.slice aa nn cc)) w') :
    wpList Try.prog ops Q (o :: rest) a w :=
  wpList_step fun K hK => step_append_wd w hgd s x ho B v l m hs hown u hx hm hlen hB (fun aa nn cc w' h1 h2 h3 h4 h5 => hK _ _ (h aa nn cc w' h1 h2 h3 h4 h5))

/-- The cells of the window i. -/
theorem Wds.at_ {w : World} {g o n c i : Nat} {l : List Wd} (h : Wds w (.slice (some ⟨g, o, none⟩) n c) l) (hi : i < l.length) : WdAt w g (o + i * 4) (l.getD i wdD) := by
  obtain ⟨a, c', e, _, h⟩ := h
  obtain ⟨g', o', e2, hc⟩ := h (by rintro rfl; simp at hi)
  simp only [Value.slice.injEq] at e
  rw [← e.1] at e2
  simp only [Option.some.injEq, Addr.mk.injEq] at e2
  obtain ⟨rfl, rfl, _⟩ := e2
  exact hc i hi
end Go.Proofs.Ytfggldholaibeaa
