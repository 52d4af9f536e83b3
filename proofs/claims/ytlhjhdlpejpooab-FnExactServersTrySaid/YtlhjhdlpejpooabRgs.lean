/- Lists of registers in memory: read, and of the call's own. -/
import Derived.Test.YtlhjhdlpejpooabSTickv
import Derived.Test.YtlhjhdlpejpooabTcs
namespace Go.Proofs.Ytlhjhdlpejpooab
open Go.RowKit
set_option linter.unusedVariables false
set_option linter.unusedSimpArgs false

def rgD : Reg := (0, [])
/-- The two cells of a register, its tickets readable (and its slice not nil, where P). -/
def RgAt (P : Prop) (w : World) (g o : Nat) (r : Reg) (s : Value) : Prop :=
  w.cell? ⟨g, o, none⟩ = some (.int .i64 r.1) ∧ w.cell? ⟨g, o + 1, none⟩ = some s ∧ Tcs w s r.2 ∧ (P → s.ownBlock ≠ none)
def Rgs (P : Prop) (w : World) (v : Value) (l : List Reg) : Prop :=
  ∃ a c, v = .slice a l.length c ∧ l.length ≤ c ∧ (l ≠ [] → ∃ g o, a = some ⟨g, o, none⟩ ∧ ∀ i, i < l.length → ∃ s, RgAt P w g (o + i * 2) (l.getD i rgD) s)
theorem RgAt.below {P : Prop} {w w' : World} {g o : Nat} {r : Reg} {s : Value} (h : RgAt P w g o r s) (hb : Below w.heap.size w w') : RgAt P w' g o r s := by
  obtain ⟨h0, h1, h2, h3⟩ := h
  have hl : g < w.heap.size := World.block_lt_of_cell? w _ h0
  exact ⟨(hb.cell hl).trans h0, (hb.cell hl).trans h1, h2.below hb, h3⟩
theorem Rgs.below {P : Prop} {w w' : World} {v : Value} {l : List Reg} (h : Rgs P w v l) (hb : Below w.heap.size w w') : Rgs P w' v l := by
  obtain ⟨a, c, rfl, hc, h⟩ := h
  refine ⟨a, c, rfl, hc, fun hx => ?_⟩
  obtain ⟨g, o, rfl, hc⟩ := h hx
  exact ⟨g, o, rfl, fun i hi => by obtain ⟨s, hf⟩ := hc i hi; exact ⟨s, hf.below hb⟩⟩
theorem Rgs.weak {P : Prop} {w : World} {v : Value} {l : List Reg} (h : Rgs P w v l) : Rgs False w v l := by
  obtain ⟨a, c, rfl, hc, h⟩ := h
  refine ⟨a, c, rfl, hc, fun hx => ?_⟩
  obtain ⟨g, o, rfl, hc⟩ := h hx
  exact ⟨g, o, rfl, fun i hi => by obtain ⟨s, h0, h1, h2, _⟩ := hc i hi; exact ⟨s, h0, h1, h2, fun f => f.elim⟩⟩
theorem takeRg (l : List Reg) (j : Nat) (h : j < l.length) : l.take (j + 1) = l.take j ++ [l.getD j rgD] ∧ l.getD j rgD ∈ l := by
  have e : l.getD j rgD = l[j] := by rw [List.getD_eq_getElem?_getD, List.getElem?_eq_getElem h]; rfl
  rw [e]
  exact ⟨List.take_succ_eq_append_getElem h, List.getElem_mem h⟩

abbrev RgR := Reg × Option Addr × Nat
def gsl (r : RgR) : Value := .slice r.2.1 r.1.2.length r.2.2
def gcell (r : RgR) : List Value := [.int .i64 r.1.1, gsl r]
def gcells (l : List RgR) : List Value := l.flatMap gcell
theorem gcells_len (l : List RgR) : (gcells l).length = l.length * 2 := by
  induction l with
  | nil => rfl
  | cons r t ih => simp [gcells, gcell] at ih ⊢; omega
theorem gcells_snoc (l : List RgR) (r : RgR) : gcells (l ++ [r]) = gcells l ++ gcell r := by simp [gcells]
theorem gcells_at : ∀ (l : List RgR) (i j : Nat) (h : i < l.length), j < 2 → (gcells l)[i * 2 + j]? = (gcell l[i])[j]?
  | [], i, j, h, _ => by simp at h
  | r :: t, 0, j, _, hj => by
    simp only [gcells, List.flatMap_cons, List.getElem_cons_zero, Nat.zero_mul, Nat.zero_add]
    rw [List.getElem?_append_left (by simp [gcell]; omega)]
  | r :: t, i + 1, j, h, hj => by
    have ih := gcells_at t i j (by simpa using h) hj
    have e : gcells (r :: t) = gcell r ++ gcells t := by simp [gcells]
    rw [e, List.getElem?_append_right (by simp [gcell]; omega), show (i + 1) * 2 + j - (gcell r).length = i * 2 + j by simp [gcell]; omega, ih]
    rfl
theorem try_infoRegister : (Try.prog.info? 28).map (fun i => (i.zero, i.size, i.bytes)) = some (some (.agg #[.int .i64 0, .slice none 0 0]), 2, 32) := by kernel_rfl
def OwnR (w : World) (B : Nat) (v : Value) (l : List RgR) : Prop := w.ownsRow B 28 2 v l.length (gcells l)
theorem OwnR.new (B : Nat) (w : World) (h : B ≤ w.heap.size) : OwnR (w.alloc (.cells #[] 28)) B (.slice (some ⟨w.heap.size, 0, none⟩) 0 0) [] := own_new _ 2 B w h
theorem OwnR.below {w w' : World} {B : Nat} {v : Value} {l : List RgR} (h : OwnR w B v l) (hb : Below w.heap.size w w') : OwnR w' B v l := own_below h hb
theorem OwnR.shape {w : World} {B : Nat} {v : Value} {l : List RgR} (h : OwnR w B v l) : ∃ a c, v = .slice a l.length c := ownsRow_shape h
theorem OwnR.kept {w w' : World} {B : Nat} {v : Value} {l : List RgR} {row : Option Nat} (h : OwnR w B v l) (hg : w.grownBy w' row) (hr : v.ownBlock = none ∨ v.ownBlock ≠ row) : OwnR w' B v l := World.ownsRow.kept h hg hr
theorem OwnR.lt {w : World} {B g : Nat} {v : Value} {l : List RgR} (h : OwnR w B v l) (hg : v.ownBlock = some g) : B ≤ g ∧ g < w.heap.size := World.ownsRow.lt h g hg
theorem OwnR.grown_below {w w1 w2 : World} {B : Nat} {v : Value} {l : List RgR} {o : Obj} (h : Below B w w1) (hown : OwnR w1 B v l) (hB : B ≤ w1.heap.size) (hg : (w1.alloc o).grownBy w2 v.ownBlock) : Below B w w2 := below_own h hown hB hg
theorem OwnR.rgs {w : World} {B : Nat} {v : Value} {l : List RgR} (P : Prop) (h : OwnR w B v l) (hi : ∀ r ∈ l, Tcs w (gsl r) r.1.2) (hp : ∀ r ∈ l, P → (gsl r).ownBlock ≠ none) : Rgs P w v (l.map Prod.fst) := by
  have h' := h
  obtain ⟨_, ⟨rfl, h0⟩ | ⟨g, c, cur, rfl, _, _, hc, _⟩⟩ := h
  · exact ⟨none, 0, by simp [h0], by simp [h0], fun hx => absurd (by simp [List.length_eq_zero_iff.1 h0]) hx⟩
  · refine ⟨some ⟨g, 0, none⟩, c, by simp, by simpa using hc, fun _ => ⟨g, 0, rfl, fun i hi' => ?_⟩⟩
    have hil : i < l.length := by simpa using hi'
    have e : (l.map Prod.fst).getD i rgD = l[i].1 := by rw [List.getD_eq_getElem?_getD, List.getElem?_map, List.getElem?_eq_getElem hil]; rfl
    rw [e, Nat.zero_add]
    have hc : ∀ j, j < 2 → w.cell? ⟨g, i * 2 + j, none⟩ = (gcell l[i])[j]? := fun j hj => (World.ownsRow.cellAt h' (i * 2 + j) (by omega)).trans (gcells_at l i j hil hj)
    exact ⟨gsl l[i], hc 0 (by omega), hc 1 (by omega), hi _ (List.getElem_mem hil), hp _ (List.getElem_mem hil)⟩
theorem wpList_app_reg {ops : Array Oper} {rest : List Oper} {o : Oper} {a : Act} {Q : Exit → Act → World → Prop} (w : World) (hgd : o.guard = none) (s x : Operand)
    (ho : o.op = .call { callee := .builtin .append, args := #[s, x], argTypes := #[43, 43] }) (B : Nat) (v : Value) (l : List RgR) (hs : a.eval s = v) (hown : OwnR w B v l)
    (r : RgR) (c g : Nat) (hx : a.eval x = .slice (some ⟨g, 0, none⟩) 1 c) (hg : g = w.heap.size) (hlen : l.length < 8388608) (hB : B ≤ w.heap.size)
    (h : ∀ v' w', OwnR w' B v' (l ++ [r]) → (w.alloc (.cells #[.int .i64 r.1.1, gsl r] 28)).grownBy w' v.ownBlock → (v'.ownBlock = v.ownBlock ∨ v'.ownBlock = some (w.heap.size + 1)) → wpList Try.prog ops Q rest (a.put o.dst v') w') :
    wpList Try.prog ops Q (o :: rest) a (w.alloc (.cells #[.int .i64 r.1.1, gsl r] 28)) := by
  subst hg
  obtain ⟨i0, hi, hz0, hz1, hz2⟩ := info_parts try_infoRegister
  have hh : (w.alloc (.cells #[.int .i64 r.1.1, gsl r] 28)).heap[w.heap.size]? = some (.cells #[.int .i64 r.1.1, gsl r] 28) := (MapKept.heap_alloc w _).1

  refine wpList_append_own_at (w := w.alloc (.cells #[.int .i64 r.1.1, gsl r] 28)) hgd s x 43 ho B 28 i0 (.agg #[.int .i64 0, .slice none 0 0]) 2 32 Try.underlying43 hi hz0 hz1 hz2 rfl (by decide) v l.length _ hs (World.ownsRow.alloc hown _) ⟨w.heap.size, 0, none⟩ 1 c (gcell r) hx rfl ?_ ?_ ?_ ?_ ?_ ?_
  · intro j u hu
    have e : (w.alloc (.cells #[.int .i64 r.1.1, gsl r] 28)).cell? (Addr.add ⟨w.heap.size, 0, none⟩ j) = (#[Value.int .i64 r.1.1, gsl r])[j]? := by
      rw [Addr.add_lit, Nat.zero_add]
      unfold World.cell?; rw [hh]; rfl
    rw [e, ← hu]; unfold gcell
    rw [← Array.getElem?_toList]
  · intro u hu; simp [gcell, gsl] at hu; rcases hu with rfl | rfl <;> rfl
  · unfold maxLen; omega
  · omega
  · simp; omega
  · intro v' w' h1 h2 h3 h4
    refine h v' w' (by unfold OwnR; rw [List.length_append, gcells_snoc]; exact h1) h2 ?_
    simpa using h4

end Go.Proofs.Ytlhjhdlpejpooab
