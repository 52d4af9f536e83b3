/- The program's rangeNumbers: the iterator over a set's numbers. -/
import Derived.Test.YtccolpaenmebeaaIVal
import Derived.Test.YtccolpaenmebeaaUnMath
import Derived.RangeFuncNested
import Derived.RangeFuncBound
import Derived.RangeFuncCalls
import Derived.RangeFuncLeaves
import Derived.Shelf.Abstract
import Derived.Shelf.RegionOpen
import Derived.OwnWalkIn
import Derived.TacticsInMore
import Derived.LoopNIn
import Derived.LoopIn
namespace Go.Proofs.Ytccolpaenmebeaa
open Go.RowKit Go.Shelf
set_option linter.unusedVariables false
set_option linter.unusedSimpArgs false
attribute [local go_sem] Oper.semAt_some

/-! ### The numbers of a list of ranges, in order -/
def rseq (a : Int) (k : Nat) : List Int := (List.range k).map fun (i : Nat) => a + (i : Int)
def renum : List (Int × Int) → List Int
  | [] => []
  | r :: t => rseq r.1 (r.2 + 1 - r.1).toNat ++ renum t
theorem rseq_succ (a : Int) (k : Nat) : rseq a (k + 1) = rseq a k ++ [a + (k : Int)] := by simp [rseq, List.range_succ]
theorem rseq_len (a : Int) (k : Nat) : (rseq a k).length = k := by simp [rseq]
theorem rseq_pre (a : Int) {j k : Nat} (h : j ≤ k) : rseq a j <+: rseq a k := by
  refine ⟨rseq (a + j) (k - j), ?_⟩
  apply List.ext_getElem
  · simp [rseq]; omega
  · intro i h1 h2
    simp only [rseq, List.length_map, List.length_range] at h2
    by_cases hi : i < j
    · rw [List.getElem_append_left (by simpa [rseq] using hi)]; simp [rseq]
    · rw [List.getElem_append_right (by simp [rseq]; omega)]; simp [rseq]; omega
theorem rseq_mem (a : Int) (k : Nat) (n : Int) : n ∈ rseq a k ↔ a ≤ n ∧ n < a + k := by
  simp only [rseq, List.mem_map, List.mem_range]
  constructor
  · rintro ⟨i, hi, rfl⟩; omega
  · rintro ⟨h1, h2⟩; exact ⟨(n - a).toNat, by omega, by omega⟩
theorem renum_app : ∀ (l m : List (Int × Int)), renum (l ++ m) = renum l ++ renum m
  | [], m => rfl
  | r :: t, m => by rw [List.cons_append, renum, renum_app t m, renum, List.append_assoc]
theorem renum_one (x y : Int) : renum [(x, y)] = rseq x (y + 1 - x).toNat := by simp [renum]
theorem renum_mem : ∀ (l : List (Int × Int)) (n : Int), n ∈ renum l ↔ rhas l n = true
  | [], n => by simp [renum, rhas]
  | r :: t, n => by
    rw [renum, List.mem_append, rseq_mem, renum_mem t, rhas_cons]
    constructor
    · rintro (h | h)
      · exact .inl (by omega)
      · exact .inr h
    · rintro (h | h)
      · exact .inl (by omega)
      · exact .inr h
theorem renum_len : ∀ {l : List (Int × Int)} {b : Int}, 0 ≤ b → vfrom b l = true → ((renum l).length : Int) = rcnt l
  | [], b, _, _ => rfl
  | r :: t, b, h0, h => by
    rw [vfrom_cons] at h
    have ih := renum_len (l := t) (b := r.2 + 2) (by omega) h.2
    rw [renum, List.length_append, rseq_len, rcnt, ← ih]
    omega
theorem rcnt_le : ∀ {l : List (Int × Int)} {b : Int}, vfrom b l = true → b ≤ 1000 → rcnt l ≤ 1000 - b ∧ 0 ≤ rcnt l
  | [], b, _, h => by simp only [rcnt]; omega
  | r :: t, b, h, hb => by
    rw [vfrom_cons] at h
    rw [rcnt]
    by_cases h2 : r.2 + 2 ≤ 1000
    · have := rcnt_le (l := t) h.2 h2; omega
    · cases t with
      | nil => simp only [rcnt]; omega
      | cons s u => have := h.2; rw [vfrom_cons] at this; omega
theorem renum_pre {l : List (Int × Int)} {k j : Nat} {x y : Int} (hk : k < l.length) (hx : (l.getD k (0, 0)).1 = x) (hy : (l.getD k (0, 0)).2 = y) (hj : j ≤ (y + 1 - x).toNat) : renum (l.take k) ++ rseq x j <+: renum l := by
  have e : renum l = renum (l.take (k + 1)) ++ renum (l.drop (k + 1)) := by rw [← renum_app, List.take_append_drop]
  rw [e, take_get l k hk, renum_app, show l.getD k (0, 0) = (x, y) from Prod.ext hx hy, renum_one]
  obtain ⟨u, hu⟩ := rseq_pre x hj
  exact ⟨u ++ renum (l.drop (k + 1)), by rw [← hu]; simp⟩

/-! ### What a round that goes on keeps: every block of cells but some -/
def KB (X : Nat → Prop) (A B : World) : Prop := A.heap.size ≤ B.heap.size ∧ ∀ k o, ¬ X k → A.heap[k]? = some o → o.isCells = true → B.heap[k]? = some o
theorem kb_refl (X : Nat → Prop) (A : World) : KB X A A := ⟨Nat.le_refl _, fun _ _ _ h _ => h⟩
theorem kb_t {X : Nat → Prop} {A B C : World} (h : KB X A B) (k : KB X B C) : KB X A C := ⟨Nat.le_trans h.1 k.1, fun i o hx hi ho => k.2 i o hx (h.2 i o hx hi ho) ho⟩
theorem kb_b {X : Nat → Prop} {w : World} (W : World) (l : Nat) (o o' : Obj) (_ : w.heap.size ≤ l) (h : W.heap[l]? = some o) (hc : o.isCells = false) (_ : o.isWalk = false) : KB X W (W.putObj l o') := by
  refine ⟨by simp, fun k p _ hk hp => ?_⟩
  by_cases e : k = l
  · subst e; rw [h] at hk; cases hk; rw [hc] at hp; cases hp
  · exact (World.putObj_heap_other e).trans hk
theorem kb_alloc {X : Nat → Prop} {A B : World} (h : KB X A B) (o : Obj) : KB X A (B.alloc o) := by
  refine ⟨by have := h.1; simp; omega, fun k p hx hk hp => ?_⟩
  have := h.2 k p hx hk hp
  exact (Below.heap_alloc B o k (Array.getElem?_eq_some_iff.1 this).1).trans this
theorem kb_cell {X : Nat → Prop} {A B : World} (h : KB X A B) {p : Addr} {v : Value} (hx : ¬ X p.block) (hc : A.cell? p = some v) : B.cell? p = some v := by
  obtain ⟨o, ho, hco⟩ := cells_of_cell hc
  have := h.2 _ _ hx ho hco
  unfold World.cell? at hc ⊢
  rw [this]
  rw [ho] at hc
  exact hc
/-- A slice that is read, its cells being none of X. -/
def RX (X : Nat → Prop) (w : World) (v : Value) (l : List (Int × Int)) : Prop :=
  ∃ a c, v = .slice a l.length c ∧ (l ≠ [] → ∃ g o, a = some ⟨g, o, none⟩ ∧ ¬ X g ∧ ∀ i, i < l.length → w.cell? ⟨g, o + i * 2, none⟩ = some (.int .i64 (l.getD i (0, 0)).1) ∧ w.cell? ⟨g, o + i * 2 + 1, none⟩ = some (.int .i64 (l.getD i (0, 0)).2))
theorem RX.of {X : Nat → Prop} {w0 w : World} {v : Value} {l : List (Int × Int)} (h : Rngs w0 v l) (hb : Below w0.heap.size w0 w) (hX : ∀ k, X k → w0.heap.size ≤ k) : RX X w v l := by
  obtain ⟨a, c, rfl, h⟩ := h
  refine ⟨a, c, rfl, fun h0 => ?_⟩
  obtain ⟨g, o, rfl, hc⟩ := h h0
  refine ⟨g, o, rfl, fun hx => ?_, fun i hi => ⟨(hb.cell (World.block_lt_of_cell? w0 _ (hc i hi).1)).trans (hc i hi).1, (hb.cell (World.block_lt_of_cell? w0 _ (hc i hi).2)).trans (hc i hi).2⟩⟩
  have := World.block_lt_of_cell? w0 _ (hc 0 (List.length_pos_iff.2 h0)).1
  have := hX g hx
  simp at *
  omega

/-- rangeNumbers: the slice value is boxed; the function value captures the box. -/
theorem nums_make (F : Fence) (n : Nat) (h : F.fn 63) (hro : F.round = none) (a : Option Addr) (len cap : Nat) (w : World) :
    CallsIn F n Try.prog 63 #[.slice a len cap] w fun e w' => e = .returned (.func (.func 64) #[] #[.pointer (some ⟨w.heap.size, 0, none⟩)]) ∧ w' = w.alloc (.cells #[.slice a len cap] 44) := by
  refine callsIn_of_wp Try.func63 rfl h ?_ hro
  simp only [Try.ntmps63, List.size_toArray, List.length_cons, List.length_nil, Nat.reduceAdd, Nat.reduceSub, Array.replicate_succ, Array.replicate_zero, List.push_toArray, List.append_toArray, List.nil_append, List.cons_append]
  gi_wp2
  go_ret
  exact ⟨rfl, rfl⟩

end Go.Proofs.Ytccolpaenmebeaa
