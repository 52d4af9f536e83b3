/- Slices of sent packets: what they hold, rows of the call's own, append. -/
import Derived.Test.YtccolpaenmebeaaLsMath
import Derived.Test.YtccolpaenmebeaaOwn
import Derived.WalkSmall
import Derived.Deep.RegionLaw
import Derived.Maps.AppendAt
import Derived.Laws.OwnMore
import Derived.Lib.BufferWrite
namespace Go.Proofs.Ytccolpaenmebeaa
open Go.RowKit
set_option linter.unusedVariables false
set_option linter.unusedSimpArgs false

/-- The three cells of a packet. -/
def pcell (r : Pk) : List Value := [.int .i64 r.1, .int .i64 r.2.1, .int .i64 r.2.2]
def pcells (l : List Pk) : List Value := l.flatMap pcell
theorem pcells_len (l : List Pk) : (pcells l).length = l.length * 3 := by
  induction l with
  | nil => rfl
  | cons r t ih => simp [pcells, pcell] at ih ⊢; omega
theorem pcells_app (l m : List Pk) : pcells (l ++ m) = pcells l ++ pcells m := by simp [pcells]
theorem pcells_snoc (l : List Pk) (r : Pk) : pcells (l ++ [r]) = pcells l ++ pcell r := by simp [pcells]
theorem pcells_one (l : List Pk) : ∀ u ∈ pcells l, u.oneCell' = true := by
  intro u hu
  obtain ⟨r, _, hr⟩ := List.mem_flatMap.1 hu
  simp [pcell] at hr
  rcases hr with rfl | rfl | rfl <;> rfl
theorem pcells_at : ∀ (l : List Pk) (i j : Nat) (h : i < l.length), j < 3 → (pcells l)[i * 3 + j]? = (pcell l[i])[j]?
  | [], i, j, h, _ => by simp at h
  | r :: t, 0, j, _, hj => by
    simp only [pcells, List.flatMap_cons, List.getElem_cons_zero, Nat.zero_mul, Nat.zero_add]
    rw [List.getElem?_append_left (by simp [pcell]; omega)]
  | r :: t, i + 1, j, h, hj => by
    have ih := pcells_at t i j (by simpa using h) hj
    have e : pcells (r :: t) = pcell r ++ pcells t := by simp [pcells]
    rw [e, List.getElem?_append_right (by simp [pcell]; omega), show (i + 1) * 3 + j - (pcell r).length = i * 3 + j by simp [pcell]; omega, ih]
    rfl
theorem try_infoPk : (Try.prog.info? 57).map (fun i => (i.zero, i.size, i.bytes)) = some (some (.agg #[.int .i64 0, .int .i64 0, .int .i64 0]), 3, 24) := by kernel_rfl

/-- A packet's cells at an address. -/
def PkAt (w : World) (g o : Nat) (p : Pk) : Prop := w.cell? ⟨g, o, none⟩ = some (.int .i64 p.1) ∧ w.cell? ⟨g, o + 1, none⟩ = some (.int .i64 p.2.1) ∧ w.cell? ⟨g, o + 2, none⟩ = some (.int .i64 p.2.2)
theorem PkAt.below {w w' : World} {g o : Nat} {p : Pk} (h : PkAt w g o p) {B : Nat} (hb : Below B w w') (hB : g < B) : PkAt w' g o p :=
  ⟨(hb.cell (p := ⟨g, o, none⟩) hB).trans h.1, (hb.cell (p := ⟨g, o + 1, none⟩) hB).trans h.2.1, (hb.cell (p := ⟨g, o + 2, none⟩) hB).trans h.2.2⟩
theorem PkAt.lt {w : World} {g o : Nat} {p : Pk} (h : PkAt w g o p) : g < w.heap.size := World.block_lt_of_cell? w _ h.1
/-- A slice whose elements read as the packets l. -/
def Pks (w : World) (v : Value) (l : List Pk) : Prop :=
  ∃ a c, v = .slice a l.length c ∧ l.length ≤ c ∧ (l ≠ [] → ∃ g o, a = some ⟨g, o, none⟩ ∧ ∀ i, i < l.length → PkAt w g (o + i * 3) (l.getD i pkD))
theorem Pks.below {w w' : World} {v : Value} {l : List Pk} (h : Pks w v l) (hb : Below w.heap.size w w') : Pks w' v l := by
  obtain ⟨a, c, rfl, hc, h⟩ := h
  refine ⟨a, c, rfl, hc, fun hx => ?_⟩
  obtain ⟨g, o, rfl, hc⟩ := h hx
  exact ⟨g, o, rfl, fun i hi => (hc i hi).below hb (hc i hi).lt⟩
/-- A list of the call's own. -/
def OwnPk (w : World) (B : Nat) (v : Value) (l : List Pk) : Prop := w.ownsRow B 57 3 v l.length (pcells l)
theorem OwnPk.new (B : Nat) (w : World) (h : B ≤ w.heap.size) : OwnPk (w.alloc (.cells #[] 57)) B (.slice (some ⟨w.heap.size, 0, none⟩) 0 0) [] := own_new _ 3 B w h
theorem OwnPk.nil (w : World) (B : Nat) : OwnPk w B (.slice none 0 0) [] := ⟨rfl, .inl ⟨rfl, rfl⟩⟩
theorem OwnPk.below {w w' : World} {B : Nat} {v : Value} {l : List Pk} (h : OwnPk w B v l) (hb : Below w.heap.size w w') : OwnPk w' B v l := own_below h hb
theorem OwnPk.shape {w : World} {B : Nat} {v : Value} {l : List Pk} (h : OwnPk w B v l) : ∃ a c, v = .slice a l.length c := ownsRow_shape h
theorem OwnPk.lower {w : World} {B B' : Nat} {v : Value} {l : List Pk} (h : OwnPk w B v l) (hB : B' ≤ B) : OwnPk w B' v l := by
  obtain ⟨h0, h | ⟨g, c, cur, h1, h2, h3⟩⟩ := h
  · exact ⟨h0, .inl h⟩
  · exact ⟨h0, .inr ⟨g, c, cur, h1, by omega, h3⟩⟩
theorem OwnPk.far {w : World} {B b i : Nat} {v u : Value} {l : List Pk} (h : OwnPk w B v l) (hn : v.ownBlock ≠ some b) : OwnPk (w.setCell ⟨b, i, none⟩ u) B v l :=
  World.ownsRow.kept h (Lib.grownBy_setCell w b i u) (by cases hq : v.ownBlock with | none => exact .inl rfl | some g => exact .inr (by rw [← hq]; exact hn))
theorem OwnPk.pks {w : World} {B : Nat} {v : Value} {l : List Pk} (h : OwnPk w B v l) : Pks w v l := by
  have h' := h
  obtain ⟨_, ⟨rfl, h0⟩ | ⟨g, c, cur, rfl, _, _, hc, _⟩⟩ := h
  · exact ⟨none, 0, by rw [h0], by omega, fun hx => absurd (List.length_eq_zero_iff.1 h0) hx⟩
  · refine ⟨some ⟨g, 0, none⟩, c, rfl, by omega, fun _ => ⟨g, 0, rfl, fun i hi => ?_⟩⟩
    have e : l.getD i pkD = l[i] := by rw [List.getD_eq_getElem?_getD, List.getElem?_eq_getElem hi]; rfl
    have hc : ∀ j, j < 3 → w.cell? ⟨g, i * 3 + j, none⟩ = (pcell l[i])[j]? := fun j hj => (World.ownsRow.cellAt h' (i * 3 + j) (by omega)).trans (pcells_at l i j hi hj)
    rw [e, Nat.zero_add]
    exact ⟨hc 0 (by omega), hc 1 (by omega), hc 2 (by omega)⟩

/-- The cells of a part of a row. -/
def CellsP (w : World) (g o : Nat) (m : List Pk) : Prop := ∀ q u, (pcells m)[q]? = some u → w.cell? ⟨g, o + q, none⟩ = some u
theorem CellsP.below {w w' : World} {g o : Nat} {m : List Pk} (h : CellsP w g o m) (hb : Below w.heap.size w w') : CellsP w' g o m := fun q u hu =>
  (hb.cell (World.block_lt_of_cell? w _ (h q u hu))).trans (h q u hu)
theorem Pks.cells {w : World} {g o c n : Nat} {l : List Pk} (h : Pks w (.slice (some ⟨g, o, none⟩) n c) l) : CellsP w g o l := fun q u hu => by
  obtain ⟨a, c', e, _, h⟩ := h
  have hq : q < l.length * 3 := by rw [← pcells_len]; exact (List.getElem?_eq_some_iff.1 hu).1
  obtain ⟨g', o', e2, hc⟩ := h (by rintro rfl; simp at hq)
  simp only [Value.slice.injEq] at e
  rw [← e.1] at e2
  simp only [Option.some.injEq, Addr.mk.injEq] at e2
  obtain ⟨rfl, rfl, _⟩ := e2
  have hi : q / 3 < l.length := by omega
  have hq3 : q = q / 3 * 3 + q % 3 := by omega
  have hj : q % 3 < 3 := Nat.mod_lt _ (by omega)
  rw [hq3, pcells_at l (q / 3) (q % 3) hi hj] at hu
  have ee : l.getD (q / 3) pkD = l[q / 3] := by rw [List.getD_eq_getElem?_getD, List.getElem?_eq_getElem hi]; rfl
  obtain ⟨c0, c1, c2⟩ := hc (q / 3) hi
  rw [ee] at c0 c1 c2
  rw [hq3]
  rcases (by omega : q % 3 = 0 ∨ q % 3 = 1 ∨ q % 3 = 2) with h3 | h3 | h3 <;> rw [h3] at hu ⊢
  · rw [← hu]; exact c0
  · rw [← hu, ← Nat.add_assoc]; exact c1
  · rw [← hu, ← Nat.add_assoc]; exact c2
/-- What an append of a row of packets asks. -/
def SrcP (w : World) (v : Value) (m : List Pk) : Prop :=
  (v = .slice none 0 0 ∧ m = []) ∨ ∃ ad c, v = .slice (some ad) m.length c ∧ (m ≠ [] → ∃ g o, ad = ⟨g, o, none⟩ ∧ CellsP w g o m)
theorem SrcP.below {w w' : World} {v : Value} {m : List Pk} (h : SrcP w v m) (hb : Below w.heap.size w w') : SrcP w' v m := by
  rcases h with h | ⟨ad, c, rfl, h⟩
  · exact .inl h
  · exact .inr ⟨ad, c, rfl, fun hx => by obtain ⟨g, o, rfl, hc⟩ := h hx; exact ⟨g, o, rfl, hc.below hb⟩⟩
/-- A slice that came in, or that a call handed back: not half nil. -/
def NilOk (v : Value) : Prop := v.ownBlock ≠ none ∨ v = .slice none 0 0
theorem SrcP.of {w : World} {v : Value} {l : List Pk} (h : Pks w v l) (hn : NilOk v) : SrcP w v l := by
  obtain ⟨a, c, rfl, hcc, hh⟩ := h
  cases a with
  | none =>
    have e := hn.resolve_left (fun k => k rfl)
    simp only [Value.slice.injEq, true_and] at e
    obtain ⟨e1, rfl⟩ := e
    exact .inl ⟨by rw [e1], List.length_eq_zero_iff.1 e1⟩
  | some ad => exact .inr ⟨ad, c, rfl, fun hx => by
      obtain ⟨g, o, e, hc⟩ := hh hx
      injection e with e
      subst e
      exact ⟨g, o, rfl, Pks.cells (c := c) (n := l.length) ⟨_, c, rfl, hcc, fun _ => ⟨g, o, rfl, hc⟩⟩⟩⟩
theorem SrcP.new (w : World) (p : Pk) (T : TypeId) : SrcP (w.alloc (.cells #[.int .i64 p.1, .int .i64 p.2.1, .int .i64 p.2.2] T)) (.slice (some ⟨w.heap.size, 0, none⟩) 1 1) [p] :=
  .inr ⟨⟨w.heap.size, 0, none⟩, 1, rfl, fun _ => ⟨w.heap.size, 0, rfl, fun q u hu => by
    rw [Nat.zero_add, World.cell?_alloc_mark]
    simpa [pcells, pcell] using hu⟩⟩
theorem OwnPk.nilok {w : World} {B : Nat} {v : Value} {l : List Pk} (h : OwnPk w B v l) : NilOk v := by
  obtain ⟨h0, ⟨h1, _⟩ | ⟨g, c, cur, he, _⟩⟩ := h
  · exact .inr h1
  · left; rw [he]; simp [Value.ownBlock]

theorem append_pk (w : World) (ty : TypeId) (B : Nat) (v : Value) (l m : List Pk) (hown : OwnPk w B v l) (u : Value) (hm : SrcP w u m) (hlen : l.length + m.length ≤ 2097152) (hB : B ≤ w.heap.size) :
    ∃ v' w', (Builtin.append_ #[22, 22] ty #[v, u]).run Try.prog w = .ok v' w' ∧ OwnPk w' B v' (l ++ m) ∧ w.grownBy w' v.ownBlock ∧ (v'.ownBlock = v.ownBlock ∨ v'.ownBlock = some w.heap.size) ∧ (v' = .slice none 0 0 ↔ v = .slice none 0 0 ∧ m = []) := by
  obtain ⟨i0, hi, hz0, hz1, hz2⟩ := info_parts try_infoPk
  rcases hm with ⟨rfl, rfl⟩ | ⟨ad, c, rfl, hm⟩
  · exact ⟨v, w, run_append_owned_none (P := Try.prog) (w := w) B 22 ty 57 i0 3 Try.underlying22 hi v l.length _ hown, by simpa using hown, World.grownBy.refl w _, .inl rfl, by simp⟩
  · have key : ∀ j u, (pcells m)[j]? = some u → w.cell? (ad.add j) = some u := by
      intro j u hu
      by_cases h0 : m = []
      · subst h0; simp [pcells] at hu
      · obtain ⟨g, oo, rfl, hc⟩ := hm h0
        rw [Addr.add_lit]
        exact hc j u hu
    obtain ⟨v', w', hr, h2, h3, h4, h5⟩ := run_append_own_at (P := Try.prog) w B 22 ty 57 i0 (.agg #[.int .i64 0, .int .i64 0, .int .i64 0]) 3 24 Try.underlying22 hi hz0 hz1 hz2 rfl (by decide) v l.length (pcells l) hown ad m.length c (pcells m) (pcells_len m) key (pcells_one m) (by unfold maxLen; omega) (by omega) hB
    exact ⟨v', w', hr, by unfold OwnPk; rw [List.length_append, pcells_app]; exact h2, h3, h5, by rw [h4, List.length_eq_zero_iff]⟩
theorem step_append_pk (w : World) {ops : Array Oper} {o : Oper} {a : Act} {K : Act → World → Prop} {Q : Exit → Act → World → Prop} {E : Prop} (hgd : o.guard = none) (s x : Operand)
    (ho : o.op = .call { callee := .builtin .append, args := #[s, x], argTypes := #[22, 22] })
    (B : Nat) (v : Value) (l m : List Pk) (hs : a.eval s = v) (hown : OwnPk w B v l) (u : Value) (hx : a.eval x = u) (hm : SrcP w u m) (hlen : l.length + m.length ≤ 2097152) (hB : B ≤ w.heap.size)
    (h : ∀ aa nn cc w', OwnPk w' B (.slice aa nn cc) (l ++ m) → Hid (nn = (l ++ m).length) → w.grownBy w' v.ownBlock → ((Value.slice aa nn cc).ownBlock = v.ownBlock ∨ (Value.slice aa nn cc).ownBlock = some w.heap.size) → (Value.slice aa nn cc = .slice none 0 0 ↔ v = .slice none 0 0 ∧ m = []) → K (a.put o.dst (.slice aa nn cc)) w') :
    if Region.wanted o (yielded ops a.tmps) = true then Oper.wp Try.prog o a w K Q else E := by
  have hw : Region.wanted o (yielded ops a.tmps) = true := by simp [Region.wanted, hgd]
  rw [if_pos hw]
  obtain ⟨v', w', hr, h1, h2, h3, h4⟩ := append_pk w o.type B v l m hown u hm hlen hB
  unfold Oper.wp execOp
  simp only [ho, resolve, invoke, builtin, Sem.run_bind, Sem.run_pure, Result.andThen_ok, List.map_toArray, List.map_cons, List.map_nil, hs, hx, hr]
  obtain ⟨aa, cc, rfl⟩ := ownsRow_shape h1
  exact h aa _ cc w' h1 rfl h2 h3 h4
/-- .. where the operations stand in the order of the text. -/
theorem wpList_app_pk (w : World) {ops : Array Oper} {rest : List Oper} {o : Oper} {a : Act} {Q : Exit → Act → World → Prop} (hgd : o.guard = none) (s x : Operand)
    (ho : o.op = .call { callee := .builtin .append, args := #[s, x], argTypes := #[22, 22] })
    (B : Nat) (v : Value) (l m : List Pk) (hs : a.eval s = v) (hown : OwnPk w B v l) (u : Value) (hx : a.eval x = u) (hm : SrcP w u m) (hlen : l.length + m.length ≤ 2097152) (hB : B ≤ w.heap.size)
    (h : ∀ aa nn cc w', OwnPk w' B (.slice aa nn cc) (l ++ m) → Hid (nn = (l ++ m).length) → w.grownBy w' v.ownBlock → ((Value.slice aa nn cc).ownBlock = v.ownBlock ∨ (Value.slice aa nn cc).ownBlock = some w.heap.size) → (Value.slice aa nn cc = .slice none 0 0 ↔ v = .slice none 0 0 ∧ m = []) → wpList Try.prog ops Q rest (a.put o.dst (.slice aa nn cc)) w') :
    wpList Try.prog ops Q (o :: rest) a w :=
  wpList_step fun K hK => step_append_pk w hgd s x ho B v l m hs hown u hx hm hlen hB (fun aa nn cc w' h1 h2 h3 h4 h5 => hK _ _ (h aa nn cc w' h1 h2 h3 h4 h5))

/-- A block of three cells: a state (next, flight, largest), a packet. -/
structure C3 (w : World) (b : Nat) (u v z : Value) : Prop where
  c0 : w.cell? ⟨b, 0, none⟩ = some u
  c1 : w.cell? ⟨b, 1, none⟩ = some v
  c2 : w.cell? ⟨b, 2, none⟩ = some z
theorem C3.new (w : World) (u v z : Value) (T : TypeId) : C3 (w.alloc (.cells #[u, v, z] T)) w.heap.size u v z := by
  refine ⟨?_, ?_, ?_⟩ <;> (rw [World.cell?_alloc_mark]; rfl)
theorem C3.lt {w : World} {b : Nat} {u v z : Value} (h : C3 w b u v z) : b < w.heap.size := World.block_lt_of_cell? w _ h.c0
theorem C3.below {w w' : World} {b : Nat} {u v z : Value} (h : C3 w b u v z) (hb : Below w.heap.size w w') : C3 w' b u v z :=
  ⟨(hb.cell (p := ⟨b, 0, none⟩) h.lt).trans h.c0, (hb.cell (p := ⟨b, 1, none⟩) h.lt).trans h.c1, (hb.cell (p := ⟨b, 2, none⟩) h.lt).trans h.c2⟩
theorem C3.alloc {w : World} {b : Nat} {u v z : Value} (h : C3 w b u v z) (o : Obj) : C3 (w.alloc o) b u v z := h.below ((Below.refl _ _).alloc (Nat.le_refl _) _)
theorem C3.drew {w : World} {b : Nat} {u v z : Value} (h : C3 w b u v z) : C3 w.drew b u v z := h.below (Below.refl _ _).drew
theorem C3.kept {w W : World} {b : Nat} {u v z : Value} {row : Option Nat} (h : C3 w b u v z) (hg : w.grownBy W row) (hr : some b ≠ row) : C3 W b u v z := ⟨hg.cell h.c0 hr, hg.cell h.c1 hr, hg.cell h.c2 hr⟩
theorem C3.far {w : World} {b c i : Nat} {u v z x : Value} (h : C3 w b u v z) (hn : c ≠ b) : C3 (w.setCell ⟨c, i, none⟩ x) b u v z := by
  have hne : ∀ j : Nat, (⟨c, i, none⟩ : Addr) ≠ ⟨b, j, none⟩ := fun j e => hn (by injection e)
  exact ⟨(World.cell?_setCell_other _ _ _ _ (hne 0)).trans h.c0, (World.cell?_setCell_other _ _ _ _ (hne 1)).trans h.c1, (World.cell?_setCell_other _ _ _ _ (hne 2)).trans h.c2⟩
theorem C3.set0 {w : World} {b : Nat} {u v z : Value} (h : C3 w b u v z) (x : Value) : C3 (w.setCell ⟨b, 0, none⟩ x) b x v z :=
  ⟨World.cell?_setCell_same _ _ _ h.c0, (World.cell?_setCell_other _ _ _ _ (by simp)).trans h.c1, (World.cell?_setCell_other _ _ _ _ (by simp)).trans h.c2⟩
theorem C3.set1 {w : World} {b : Nat} {u v z : Value} (h : C3 w b u v z) (x : Value) : C3 (w.setCell ⟨b, 1, none⟩ x) b u x z :=
  ⟨(World.cell?_setCell_other _ _ _ _ (by simp)).trans h.c0, World.cell?_setCell_same _ _ _ h.c1, (World.cell?_setCell_other _ _ _ _ (by simp)).trans h.c2⟩
theorem C3.set2 {w : World} {b : Nat} {u v z : Value} (h : C3 w b u v z) (x : Value) : C3 (w.setCell ⟨b, 2, none⟩ x) b u v x :=
  ⟨(World.cell?_setCell_other _ _ _ _ (by simp)).trans h.c0, (World.cell?_setCell_other _ _ _ _ (by simp)).trans h.c1, World.cell?_setCell_same _ _ _ h.c2⟩
def Soft (W : World) (b : Nat) : Prop := ∀ i, W.frozen? ⟨b, i, none⟩ = false
theorem Soft.below {W W' : World} {b : Nat} (h : Soft W b) (hb : Below W.heap.size W W') (hlt : b < W.heap.size) : Soft W' b := fun i => (hb.frozen (p := ⟨b, i, none⟩) hlt).trans (h i)
theorem Soft.kept {W W' : World} {b : Nat} {row : Option Nat} (h : Soft W b) (hg : W.grownBy W' row) (hlt : b < W.heap.size) (hr : some b ≠ row) : Soft W' b := fun i => by rw [hg.frozen_far ⟨b, i, none⟩ hlt hr]; exact h i
theorem Soft.set {W : World} {b : Nat} (h : Soft W b) (a : Addr) (v : Value) : Soft (W.setCell a v) b := fun i => by rw [World.frozen?_setCell]; exact h i
theorem Soft.new (w : World) (c : Array Value) (T : TypeId) : Soft (w.alloc (.cells c T)) w.heap.size := fun i => World.frozen?_alloc_at _ _ _ i rfl

end Go.Proofs.Ytccolpaenmebeaa
