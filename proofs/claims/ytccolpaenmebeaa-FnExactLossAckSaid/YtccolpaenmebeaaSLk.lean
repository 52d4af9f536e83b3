/- Where the model's l22Ack stands in its loop. -/
import Derived.Test.YtccolpaenmebeaaPk
import Derived.Test.YtccolpaenmebeaaSHa
import Derived.Test.YtccolpaenmebeaaOwnI
import Derived.Laws.ResultCell
namespace Go.Proofs.Ytccolpaenmebeaa
open Go.RowKit
set_option linter.unusedVariables false
set_option linter.unusedSimpArgs false

theorem hasR_rhas : ∀ (r : List (Int × Int)) (n : Int), hasR r n = rhas r n
  | [], n => rfl
  | p :: t, n => by unfold hasR rhas; rw [List.any_cons, ← hasR_rhas t n]; rfl

theorem OwnI.far {w : World} {B b i : Nat} {v u : Value} {l : List Int} (h : OwnI w B v l) (hn : v.ownBlock ≠ some b) : OwnI (w.setCell ⟨b, i, none⟩ u) B v l :=
  World.ownsRow.kept h (Lib.grownBy_setCell w b i u) (by cases hq : v.ownBlock with | none => exact .inl rfl | some g => exact .inr (by rw [← hq]; exact hn))

/-- Where l22Ack's loop stands: the argument, the result's cell, the state that is made, the three rows; no two blocks are one. -/
structure AckS (w W : World) (v gv lv : Value) (a : Option Addr) (c : Nat) (n g top : Int) (l k : List Pk) (gs ls : List Int) : Prop where
  bl : Below w.heap.size w W
  x : C3 W w.heap.size (.int .i64 n) (.slice a l.length c) (.int .i64 g)
  z : C3 W (w.heap.size + 1) (.int .i64 0) (.slice none 0 0) (.int .i64 0)
  zf : Soft W (w.heap.size + 1)
  o : C3 W (w.heap.size + 1 + 1 + 1) (.int .i64 n) v (.int .i64 top)
  of : Soft W (w.heap.size + 1 + 1 + 1)
  k : OwnPk W w.heap.size v k
  g : OwnI W w.heap.size gv gs
  l : OwnI W w.heap.size lv ls
  dis : ∃ qv qg ql, v.ownBlock = some qv ∧ gv.ownBlock = some qg ∧ lv.ownBlock = some ql ∧ (qv ≠ qg ∧ qv ≠ ql ∧ qg ≠ ql) ∧ (qv ≠ w.heap.size ∧ qv ≠ w.heap.size + 1 ∧ qv ≠ w.heap.size + 1 + 1 + 1) ∧ (qg ≠ w.heap.size ∧ qg ≠ w.heap.size + 1 ∧ qg ≠ w.heap.size + 1 + 1 + 1) ∧ (ql ≠ w.heap.size ∧ ql ≠ w.heap.size + 1 ∧ ql ≠ w.heap.size + 1 + 1 + 1)
theorem AckS.below {w W W' : World} {v gv lv : Value} {a : Option Addr} {c : Nat} {n g top : Int} {l k : List Pk} {gs ls : List Int} (h : AckS w W v gv lv a c n g top l k gs ls) (hb : Below W.heap.size W W') : AckS w W' v gv lv a c n g top l k gs ls :=
  ⟨h.bl.trans (hb.mono h.bl.size), h.x.below hb, h.z.below hb, h.zf.below hb h.z.lt, h.o.below hb, h.of.below hb h.o.lt, h.k.below hb, h.g.below hb, h.l.below hb, h.dis⟩
theorem AckS.alloc {w W : World} {v gv lv : Value} {a : Option Addr} {c : Nat} {n g top : Int} {l k : List Pk} {gs ls : List Int} (h : AckS w W v gv lv a c n g top l k gs ls) (o : Obj) : AckS w (W.alloc o) v gv lv a c n g top l k gs ls := h.below ((Below.refl _ _).alloc (Nat.le_refl _) o)
theorem AckS.addG {w W W' : World} {v gv lv gv' : Value} {a : Option Addr} {c : Nat} {n g top y : Int} {l k : List Pk} {gs ls : List Int} (h0 : AckS w W v gv lv a c n g top l k gs ls) (o : Obj) (ho : OwnI W' w.heap.size gv' (gs ++ [y])) (hg : (W.alloc o).grownBy W' gv.ownBlock) (hb : gv'.ownBlock = gv.ownBlock ∨ gv'.ownBlock = some (W.heap.size + 1)) : AckS w W' v gv' lv a c n g top l k (gs ++ [y]) ls := by
  have h := h0.alloc o
  obtain ⟨qv, qg, ql, e1, e2, e3, d1, d2, d3, d4⟩ := h.dis
  have l1 := h0.o.lt
  have l2 := (World.ownsRow.lt h0.k qv e1).2
  have l3 := (World.ownsRow.lt h0.l ql e3).2
  have l4 := (World.ownsRow.lt h0.g qg e2).1
  rw [e2] at hg
  have n1 : ∀ q, q ≠ qg → some q ≠ some qg := fun q hq e => hq (Option.some.inj e)
  refine ⟨h.bl.grown hg h.bl.size (fun j hj => by cases hj; exact l4), h.x.kept hg (n1 _ (by omega)), h.z.kept hg (n1 _ (by omega)), h.zf.kept hg h.z.lt (n1 _ (by omega)), h.o.kept hg (n1 _ (by omega)), h.of.kept hg h.o.lt (n1 _ (by omega)), World.ownsRow.kept h.k hg (.inr (by rw [e1]; exact n1 _ (by omega))), ho, World.ownsRow.kept h.l hg (.inr (by rw [e3]; exact n1 _ (by omega))), ?_⟩
  rcases hb with hb | hb
  · exact ⟨qv, qg, ql, e1, by rw [hb, e2], e3, d1, d2, d3, d4⟩
  · exact ⟨qv, W.heap.size + 1, ql, e1, hb, e3, ⟨by omega, by omega, by omega⟩, d2, ⟨by omega, by omega, by omega⟩, d4⟩
theorem AckS.addL {w W W' : World} {v gv lv lv' : Value} {a : Option Addr} {c : Nat} {n g top y : Int} {l k : List Pk} {gs ls : List Int} (h0 : AckS w W v gv lv a c n g top l k gs ls) (o : Obj) (ho : OwnI W' w.heap.size lv' (ls ++ [y])) (hg : (W.alloc o).grownBy W' lv.ownBlock) (hb : lv'.ownBlock = lv.ownBlock ∨ lv'.ownBlock = some (W.heap.size + 1)) : AckS w W' v gv lv' a c n g top l k gs (ls ++ [y]) := by
  have h := h0.alloc o
  obtain ⟨qv, qg, ql, e1, e2, e3, d1, d2, d3, d4⟩ := h.dis
  have l1 := h0.o.lt
  have l2 := (World.ownsRow.lt h0.k qv e1).2
  have l3 := (World.ownsRow.lt h0.g qg e2).2
  have l4 := (World.ownsRow.lt h0.l ql e3).1
  rw [e3] at hg
  have n1 : ∀ q, q ≠ ql → some q ≠ some ql := fun q hq e => hq (Option.some.inj e)
  refine ⟨h.bl.grown hg h.bl.size (fun j hj => by cases hj; exact l4), h.x.kept hg (n1 _ (by omega)), h.z.kept hg (n1 _ (by omega)), h.zf.kept hg h.z.lt (n1 _ (by omega)), h.o.kept hg (n1 _ (by omega)), h.of.kept hg h.o.lt (n1 _ (by omega)), World.ownsRow.kept h.k hg (.inr (by rw [e1]; exact n1 _ (by omega))), World.ownsRow.kept h.g hg (.inr (by rw [e2]; exact n1 _ (by omega))), ho, ?_⟩
  rcases hb with hb | hb
  · exact ⟨qv, qg, ql, e1, e2, by rw [hb, e3], d1, d2, d3, d4⟩
  · exact ⟨qv, qg, W.heap.size + 1, e1, e2, hb, ⟨by omega, by omega, by omega⟩, d2, d3, ⟨by omega, by omega, by omega⟩⟩
theorem AckS.addK {w W W' : World} {v gv lv v' : Value} {a : Option Addr} {c : Nat} {n g top : Int} {p : Pk} {l k : List Pk} {gs ls : List Int} (h : AckS w W v gv lv a c n g top l k gs ls) (ho : OwnPk W' w.heap.size v' (k ++ [p])) (hg : W.grownBy W' v.ownBlock) (hb : v'.ownBlock = v.ownBlock ∨ v'.ownBlock = some W.heap.size) : AckS w (W'.setCell ⟨w.heap.size + 1 + 1 + 1, 1, none⟩ v') v' gv lv a c n g top l (k ++ [p]) gs ls := by
  obtain ⟨qv, qg, ql, e1, e2, e3, d1, d2, d3, d4⟩ := h.dis
  have l1 := h.o.lt
  have l2 := (World.ownsRow.lt h.g qg e2).2
  have l3 := (World.ownsRow.lt h.l ql e3).2
  have l4 := (World.ownsRow.lt h.k qv e1).1
  rw [e1] at hg
  have n1 : ∀ q, q ≠ qv → some q ≠ some qv := fun q hq e => hq (Option.some.inj e)
  have hd : ∃ q', v'.ownBlock = some q' ∧ (q' ≠ qg ∧ q' ≠ ql) ∧ (q' ≠ w.heap.size ∧ q' ≠ w.heap.size + 1 ∧ q' ≠ w.heap.size + 1 + 1 + 1) := by
    rcases hb with hb | hb
    · exact ⟨qv, by rw [hb, e1], ⟨d1.1, d1.2.1⟩, d2⟩
    · exact ⟨W.heap.size, hb, ⟨by omega, by omega⟩, ⟨by omega, by omega, by omega⟩⟩
  obtain ⟨q', e4, d5, d6⟩ := hd
  have hI : ∀ (u : Value) (xs : List Int) (q : Nat), OwnI W' w.heap.size u xs → u.ownBlock = some q → q ≠ w.heap.size + 1 + 1 + 1 → OwnI (W'.setCell ⟨w.heap.size + 1 + 1 + 1, 1, none⟩ v') w.heap.size u xs := fun u xs q hu e hq => World.ownsRow.kept hu (Lib.grownBy_setCell W' (w.heap.size + 1 + 1 + 1) 1 v') (.inr (by rw [e]; exact fun e' => hq (Option.some.inj e')))
  refine ⟨(h.bl.grown hg h.bl.size (fun j hj => by cases hj; exact l4)).setCell (by show w.heap.size ≤ w.heap.size + 1 + 1 + 1; omega) _, (h.x.kept hg (n1 _ (by omega))).far (by omega), (h.z.kept hg (n1 _ (by omega))).far (by omega), (h.zf.kept hg h.z.lt (n1 _ (by omega))).set _ _, (h.o.kept hg (n1 _ (by omega))).set1 _, (h.of.kept hg h.o.lt (n1 _ (by omega))).set _ _, ho.far (by rw [e4]; exact fun e => d6.2.2 (Option.some.inj e)), hI _ _ qg (World.ownsRow.kept h.g hg (.inr (by rw [e2]; exact n1 _ (by omega)))) e2 d3.2.2, hI _ _ ql (World.ownsRow.kept h.l hg (.inr (by rw [e3]; exact n1 _ (by omega)))) e3 d4.2.2, ⟨q', qg, ql, e4, e2, e3, ⟨d5.1, d5.2, d1.2.2⟩, d6, d3, d4⟩⟩
theorem AckS.preK {w W W' : World} {v gv lv : Value} {a : Option Addr} {c : Nat} {n g top : Int} {l k : List Pk} {gs ls : List Int} (h : AckS w W v gv lv a c n g top l k gs ls) (hg : W.grownBy W' v.ownBlock) : C3 W' (w.heap.size + 1 + 1 + 1) (.int .i64 n) v (.int .i64 top) ∧ Soft W' (w.heap.size + 1 + 1 + 1) := by
  obtain ⟨qv, qg, ql, e1, e2, e3, d1, d2, d3, d4⟩ := h.dis
  rw [e1] at hg
  have n1 : some (w.heap.size + 1 + 1 + 1) ≠ some qv := fun e => d2.2.2 (Option.some.inj e).symm
  exact ⟨h.o.kept hg n1, h.of.kept hg h.o.lt n1⟩
theorem AckS.setTop {w W : World} {v gv lv : Value} {a : Option Addr} {c : Nat} {n g top : Int} {l k : List Pk} {gs ls : List Int} (h : AckS w W v gv lv a c n g top l k gs ls) (x : Int) : AckS w (W.setCell ⟨w.heap.size + 1 + 1 + 1, 2, none⟩ (.int .i64 x)) v gv lv a c n g x l k gs ls := by
  obtain ⟨qv, qg, ql, e1, e2, e3, d1, d2, d3, d4⟩ := h.dis
  have n1 : ∀ q, q ≠ w.heap.size + 1 + 1 + 1 → some q ≠ some (w.heap.size + 1 + 1 + 1) := fun q hq e => hq (Option.some.inj e)
  exact ⟨h.bl.setCell (by show w.heap.size ≤ w.heap.size + 1 + 1 + 1; omega) _, h.x.far (by omega), h.z.far (by omega), h.zf.set _ _, h.o.set2 _, h.of.set _ _, h.k.far (by rw [e1]; exact n1 _ d2.2.2), h.g.far (by rw [e2]; exact n1 _ d3.2.2), h.l.far (by rw [e3]; exact n1 _ d4.2.2), ⟨qv, qg, ql, e1, e2, e3, d1, d2, d3, d4⟩⟩

end Go.Proofs.Ytccolpaenmebeaa
