/- A slice of boxes of the call's own: one more at its end. -/
import Derived.Test.YtakfohcnclmkbabBxs
import Derived.Test.YtakfohcnclmkbabOwnI
namespace Go.Proofs.Ytakfohcnclmkbab
open Go.RowKit
set_option linter.unusedVariables false
set_option linter.unusedSimpArgs false

abbrev BxR := Bx × Option Addr × Nat
def bsl (r : BxR) : Value := .slice r.2.1 r.1.2.length r.2.2
def bcell (r : BxR) : List Value := [.int .i64 r.1.1, bsl r]
def bcells (l : List BxR) : List Value := l.flatMap bcell
theorem bcells_len (l : List BxR) : (bcells l).length = l.length * 2 := by
  induction l with
  | nil => rfl
  | cons r t ih => simp [bcells, bcell] at ih ⊢; omega
theorem bcells_snoc (l : List BxR) (r : BxR) : bcells (l ++ [r]) = bcells l ++ bcell r := by simp [bcells]
theorem bcells_at : ∀ (l : List BxR) (i j : Nat) (h : i < l.length), j < 2 → (bcells l)[i * 2 + j]? = (bcell l[i])[j]?
  | [], i, j, h, _ => by simp at h
  | r :: t, 0, j, _, hj => by
    simp only [bcells, List.flatMap_cons, List.getElem_cons_zero, Nat.zero_mul, Nat.zero_add]
    rw [List.getElem?_append_left (by simp [bcell]; omega)]
  | r :: t, i + 1, j, h, hj => by
    have ih := bcells_at t i j (by simpa using h) hj
    have e : bcells (r :: t) = bcell r ++ bcells t := by simp [bcells]
    rw [e, List.getElem?_append_right (by simp [bcell]; omega), show (i + 1) * 2 + j - (bcell r).length = i * 2 + j by simp [bcell]; omega, ih]
    rfl
theorem try_infoBox : (Try.prog.info? 43).map (fun i => (i.zero, i.size, i.bytes)) = some (some (.agg #[.int .i64 0, .slice none 0 0]), 2, 32) := by kernel_rfl
def OwnB (w : World) (B : Nat) (v : Value) (l : List BxR) : Prop := w.ownsRow B 43 2 v l.length (bcells l)
theorem OwnB.new (B : Nat) (w : World) (h : B ≤ w.heap.size) : OwnB (w.alloc (.cells #[] 43)) B (.slice (some ⟨w.heap.size, 0, none⟩) 0 0) [] := own_new _ 2 B w h
theorem OwnB.below {w w' : World} {B : Nat} {v : Value} {l : List BxR} (h : OwnB w B v l) (hb : Below w.heap.size w w') : OwnB w' B v l := own_below h hb
theorem OwnB.shape {w : World} {B : Nat} {v : Value} {l : List BxR} (h : OwnB w B v l) : ∃ a c, v = .slice a l.length c := ownsRow_shape h
theorem OwnB.kept {w w' : World} {B : Nat} {v : Value} {l : List BxR} {row : Option Nat} (h : OwnB w B v l) (hg : w.grownBy w' row) (hr : v.ownBlock = none ∨ v.ownBlock ≠ row) : OwnB w' B v l := World.ownsRow.kept h hg hr
theorem OwnB.lt {w : World} {B g : Nat} {v : Value} {l : List BxR} (h : OwnB w B v l) (hg : v.ownBlock = some g) : B ≤ g ∧ g < w.heap.size := World.ownsRow.lt h g hg
theorem OwnB.grown_below {w w1 w2 : World} {B : Nat} {v : Value} {l : List BxR} {o : Obj} (h : Below B w w1) (hown : OwnB w1 B v l) (hB : B ≤ w1.heap.size) (hg : (w1.alloc o).grownBy w2 v.ownBlock) : Below B w w2 := below_own h hown hB hg
theorem OwnB.bxs {w : World} {B : Nat} {v : Value} {l : List BxR} (h : OwnB w B v l) (hi : ∀ r ∈ l, Ints w (bsl r) r.1.2) : Bxs w v (l.map Prod.fst) := by
  have h' := h
  obtain ⟨_, ⟨rfl, h0⟩ | ⟨g, c, cur, rfl, _⟩⟩ := h
  · exact ⟨none, 0, by simp [h0], fun hx => absurd (by simp [List.length_eq_zero_iff.1 h0]) hx⟩
  · refine ⟨some ⟨g, 0, none⟩, c, by simp, fun _ => ⟨g, 0, rfl, fun i hi' => ?_⟩⟩
    have hil : i < l.length := by simpa using hi'
    have e : (l.map Prod.fst).getD i bxD = l[i].1 := by rw [List.getD_eq_getElem?_getD, List.getElem?_map, List.getElem?_eq_getElem hil]; rfl
    rw [e, Nat.zero_add]
    have hc : ∀ j, j < 2 → w.cell? ⟨g, i * 2 + j, none⟩ = (bcell l[i])[j]? := fun j hj => (World.ownsRow.cellAt h' (i * 2 + j) (by omega)).trans (bcells_at l i j hil hj)
    exact ⟨l[i].2.1, l[i].2.2, hc 0 (by omega), hc 1 (by omega), hi _ (List.getElem_mem hil)⟩

theorem wpList_app_box {ops : Array Oper} {rest : List Oper} {o : Oper} {a : Act} {Q : Exit → Act → World → Prop} (w : World) (hgd : o.guard = none) (s x : Operand)
    (ho : o.op = .call { callee := .builtin .append, args := #[s, x], argTypes := #[25, 25] }) (B : Nat) (v : Value) (l : List BxR) (hs : a.eval s = v) (hown : OwnB w B v l)
    (r : BxR) (c g : Nat) (hx : a.eval x = .slice (some ⟨g, 0, none⟩) 1 c) (hg : g = w.heap.size) (hlen : l.length < 8388608) (hB : B ≤ w.heap.size)
    (h : ∀ v' w', OwnB w' B v' (l ++ [r]) → (w.alloc (.cells #[.int .i64 r.1.1, bsl r] 43)).grownBy w' v.ownBlock → (v'.ownBlock = v.ownBlock ∨ v'.ownBlock = some (w.heap.size + 1)) → wpList Try.prog ops Q rest (a.put o.dst v') w') :
    wpList Try.prog ops Q (o :: rest) a (w.alloc (.cells #[.int .i64 r.1.1, bsl r] 43)) := by
  subst hg
  obtain ⟨i0, hi, hz0, hz1, hz2⟩ := info_parts try_infoBox
  have hh : (w.alloc (.cells #[.int .i64 r.1.1, bsl r] 43)).heap[w.heap.size]? = some (.cells #[.int .i64 r.1.1, bsl r] 43) := (MapKept.heap_alloc w _).1

  refine wpList_append_own_at (w := w.alloc (.cells #[.int .i64 r.1.1, bsl r] 43)) hgd s x 25 ho B 43 i0 (.agg #[.int .i64 0, .slice none 0 0]) 2 32 Try.underlying25 hi hz0 hz1 hz2 rfl (by decide) v l.length _ hs (World.ownsRow.alloc hown _) ⟨w.heap.size, 0, none⟩ 1 c (bcell r) hx rfl ?_ ?_ ?_ ?_ ?_ ?_
  · intro j u hu
    have e : (w.alloc (.cells #[.int .i64 r.1.1, bsl r] 43)).cell? (Addr.add ⟨w.heap.size, 0, none⟩ j) = (#[Value.int .i64 r.1.1, bsl r])[j]? := by
      rw [Addr.add_lit, Nat.zero_add]
      unfold World.cell?; rw [hh]; rfl
    rw [e, ← hu]; unfold bcell
    rw [← Array.getElem?_toList]
  · intro u hu; simp [bcell, bsl] at hu; rcases hu with rfl | rfl <;> rfl
  · unfold maxLen; omega
  · omega
  · simp; omega
  · intro v' w' h1 h2 h3 h4
    refine h v' w' (by unfold OwnB; rw [List.length_append, bcells_snoc]; exact h1) h2 ?_
    simpa using h4

end Go.Proofs.Ytakfohcnclmkbab
