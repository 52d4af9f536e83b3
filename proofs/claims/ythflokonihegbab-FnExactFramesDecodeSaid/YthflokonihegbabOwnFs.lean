/- Rows of frames that the call owns, with their ranges; l91Frames, DrawFramesEncode. -/
import Derived.Test.YthflokonihegbabSFs
import Derived.Test.YthflokonihegbabRgOwn
import Derived.Maps.Range
import Derived.Maps.AppendAt
namespace Go.Proofs.Ythflokonihegbab
open Go.RowKit
set_option linter.unusedVariables false
set_option linter.unusedSimpArgs false

abbrev FrR := Fr × Option Addr × Nat
def fsl (r : FrR) : Value := .slice r.2.1 r.1.rs.length r.2.2
def fcell (r : FrR) : List Value := [.int .i64 r.1.k, .int .i64 r.1.a, .int .i64 r.1.b, .int .i64 r.1.c, .string r.1.d, fsl r]
def fcells (l : List FrR) : List Value := l.flatMap fcell
theorem fcells_len (l : List FrR) : (fcells l).length = l.length * 6 := by
  induction l with
  | nil => rfl
  | cons r t ih => simp [fcells, fcell] at ih ⊢; omega
theorem fcells_snoc (l : List FrR) (r : FrR) : fcells (l ++ [r]) = fcells l ++ fcell r := by simp [fcells]
theorem fcells_at : ∀ (l : List FrR) (i j : Nat) (h : i < l.length), j < 6 → (fcells l)[i * 6 + j]? = (fcell l[i])[j]?
  | [], i, j, h, _ => by simp at h
  | r :: t, 0, j, _, hj => by
    simp only [fcells, List.flatMap_cons, List.getElem_cons_zero, Nat.zero_mul, Nat.zero_add]
    rw [List.getElem?_append_left (by simp [fcell]; omega)]
  | r :: t, i + 1, j, h, hj => by
    have ih := fcells_at t i j (by simpa using h) hj
    have e : fcells (r :: t) = fcell r ++ fcells t := by simp [fcells]
    rw [e, List.getElem?_append_right (by simp [fcell]; omega), show (i + 1) * 6 + j - (fcell r).length = i * 6 + j by simp [fcell]; omega, ih]
    rfl
theorem try_infoFrame : (Try.prog.info? 29).map (fun i => (i.zero, i.size, i.bytes)) = some (some (.agg #[.int .i64 0, .int .i64 0, .int .i64 0, .int .i64 0, .string ⟨#[]⟩, .slice none 0 0]), 6, 72) := by kernel_rfl
theorem one6 (r : FrR) : ∀ u ∈ fcell r, u.oneCell' = true := by
  intro u hu
  simp [fcell, fsl] at hu
  rcases hu with rfl | rfl | rfl | rfl | rfl | rfl <;> rfl

/-- A list of frames of the call's own: the row, and of each frame the ranges, apart from the row. -/
def OwnFs (w : World) (B : Nat) (v : Value) (l : List FrR) : Prop :=
  w.ownsRow B 29 6 v l.length (fcells l) ∧ ∀ r ∈ l, OwnRg w B (fsl r) r.1.rs ∧ ∀ b, (fsl r).ownBlock = some b → v.ownBlock ≠ some b
theorem OwnFs.frs {w : World} {B : Nat} {v : Value} {l : List FrR} (h : OwnFs w B v l) : Frs w v (l.map Prod.fst) := by
  obtain ⟨h1, h2⟩ := h
  have h' := h1
  obtain ⟨_, ⟨rfl, h0⟩ | ⟨g, c, cur, rfl, _⟩⟩ := h1
  · exact ⟨none, 0, by simp [h0], fun hx => absurd (by simp [List.length_eq_zero_iff.1 h0]) hx⟩
  · refine ⟨some ⟨g, 0, none⟩, c, by simp, fun _ => ⟨g, 0, rfl, fun i hi => ?_⟩⟩
    have hi' : i < l.length := by simpa using hi
    have e : (l.map Prod.fst).getD i frD = l[i].1 := by rw [List.getD_eq_getElem?_getD, List.getElem?_map, List.getElem?_eq_getElem hi']; rfl
    rw [e, Nat.zero_add]
    have hc : ∀ j, j < 6 → w.cell? ⟨g, i * 6 + j, none⟩ = (fcell l[i])[j]? := fun j hj => (h'.cellAt (i * 6 + j) (by omega)).trans (fcells_at l i j hi' hj)
    exact ⟨l[i].2.1, l[i].2.2, hc 0 (by omega), hc 1 (by omega), hc 2 (by omega), hc 3 (by omega), hc 4 (by omega), hc 5 (by omega), Rngs.of_own (h2 _ (List.getElem_mem hi')).1⟩
theorem OwnFs.picked {w w' : World} {B b : Nat} {v : Value} {l : List FrR} (h : OwnFs w B v l) (hg : w.grownBy w' (some b)) (hb : b < B) : OwnFs w' B v l := by
  refine ⟨World.ownsRow.kept h.1 hg (.inr fun hq => ?_), fun r hr => ⟨OwnRg.picked (h.2 r hr).1 hg hb, (h.2 r hr).2⟩⟩
  have := (World.ownsRow.lt h.1 b hq).1
  omega
theorem OwnFs.below {w w' : World} {B : Nat} {v : Value} {l : List FrR} (h : OwnFs w B v l) (hb : Below w.heap.size w w') : OwnFs w' B v l :=
  ⟨own_below h.1 hb, fun r hr => ⟨OwnRg.below (h.2 r hr).1 hb, (h.2 r hr).2⟩⟩
theorem OwnFs.new (B : Nat) (w : World) (h : B ≤ w.heap.size) : OwnFs (w.alloc (.cells #[] 29)) B (.slice (some ⟨w.heap.size, 0, none⟩) 0 0) [] :=
  ⟨own_new _ 6 B w h, fun r hr => by simp at hr⟩
/-- One more frame: what the row's own law leaves. -/
theorem OwnFs.snoc {w w2 : World} {B : Nat} {v v' : Value} {l : List FrR} {r : FrR} {o : Obj} (h : OwnFs w B v l) (hr : OwnRg w B (fsl r) r.1.rs) (hap : ∀ b, (fsl r).ownBlock = some b → v.ownBlock ≠ some b)
    (ho : w2.ownsRow B 29 6 v' (l.length + 1) (fcells l ++ fcell r)) (hg : (w.alloc o).grownBy w2 v.ownBlock) (hb : v'.ownBlock = v.ownBlock ∨ v'.ownBlock = some (w.alloc o).heap.size) : OwnFs w2 B v' (l ++ [r]) := by
  have hs : (w.alloc o).heap.size = w.heap.size + 1 := by simp
  have key : ∀ q : FrR, OwnRg w B (fsl q) q.1.rs → (∀ b, (fsl q).ownBlock = some b → v.ownBlock ≠ some b) → OwnRg w2 B (fsl q) q.1.rs ∧ ∀ b, (fsl q).ownBlock = some b → v'.ownBlock ≠ some b := by
    intro q h1 h2
    refine ⟨World.ownsRow.kept (World.ownsRow.alloc h1 o) hg ?_, fun b hq => ?_⟩
    · cases hq : (fsl q).ownBlock with
      | none => exact .inl rfl
      | some b => exact .inr fun e => h2 b hq e.symm
    · rcases hb with e | e
      · rw [e]; exact h2 b hq
      · rw [e]; intro e2
        have := (World.ownsRow.lt h1 b hq).2
        injection e2 with e2
        omega
  refine ⟨by rw [List.length_append, fcells_snoc]; exact ho, fun q hq => ?_⟩
  rcases List.mem_append.1 hq with hq | hq
  · exact key q (h.2 q hq).1 (h.2 q hq).2
  · have : q = r := by simpa using hq
    subst this
    exact key q hr hap
end Go.Proofs.Ythflokonihegbab
