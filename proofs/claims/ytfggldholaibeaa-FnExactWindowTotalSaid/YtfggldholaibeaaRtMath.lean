/- Chapter 21 in plain integers: a valid estimate, the next one, the two delays. -/
import Derived.Test.YtfggldholaibeaaBase
import Derived.Below
import Derived.IntWalk
namespace Go.Proofs.Ytfggldholaibeaa
open Go.RowKit
set_option linter.unusedVariables false
set_option linter.unusedSimpArgs false

/-- Before the first sample. -/
def rz (a b c d : Int) : Prop := a = 0 ∧ b = 0 ∧ c = 0 ∧ d = 0
instance (a b c d : Int) : Decidable (rz a b c d) := by unfold rz; infer_instance
/-- With samples. -/
def rs (a b c d : Int) : Prop := (1 ≤ a ∧ a ≤ 999) ∧ (1 ≤ b ∧ b ≤ a) ∧ (8 ≤ c ∧ c ≤ 7999) ∧ 0 ≤ d ∧ d ≤ 3999
instance (a b c d : Int) : Decidable (rs a b c d) := by unfold rs; infer_instance
def rok (a b c d : Int) : Prop := rz a b c d ∨ rs a b c d
instance (a b c d : Int) : Decidable (rok a b c d) := by unfold rok; infer_instance

/-- What is taken for the sample: without the delay, unless that falls below the least. -/
def un (b s y : Int) : Int := if s - y < min b s then s else s - y
def uL (a b s : Int) : Int := if a = 0 then s else min b s
def uC (a b c s y : Int) : Int := if a = 0 then 8 * s else c - c / 8 + un b s y
def uD (a b c d s y : Int) : Int := if a = 0 then 2 * s else d - d / 4 + max (c / 8 - un b s y) (un b s y - c / 8)

theorem un_bd {b s y : Int} (hb : 1 ≤ b) (hs : 1 ≤ s) (hy : 0 ≤ y) : min b s ≤ un b s y ∧ un b s y ≤ s := by unfold un; split <;> omega
theorem u_ok {a b c d s y : Int} (h : rok a b c d) (hs : 1 ≤ s ∧ s ≤ 999) (hy : 0 ≤ y ∧ y ≤ 999) : rs s (uL a b s) (uC a b c s y) (uD a b c d s y) := by
  unfold rs uL uC uD
  rcases h with ⟨rfl, rfl, rfl, rfl⟩ | ⟨h1, h2, h3, h4⟩
  · rw [if_pos rfl, if_pos rfl, if_pos rfl]; omega
  · have hu := un_bd (y := y) h2.1 hs.1 hy.1
    rw [if_neg (by omega), if_neg (by omega), if_neg (by omega)]
    generalize un b s y = n at hu ⊢
    omega
theorem rz_iff {a b c d : Int} (h : rok a b c d) : rz a b c d ↔ a = 0 := by unfold rok rz rs at *; omega

/-- The smoothed value, FirstRtt before the first sample. -/
def pr0 (a c d : Int) : Int := if a = 0 then 100 else c / 8 + max d 1
def ld0 (a c : Int) : Int := if a = 0 then 100 else max (c / 8) a
def probe (a b c d k : Int) : Int := if rok a b c d ∧ 0 ≤ k ∧ k ≤ 6 then pr0 a c d * 2 ^ k.toNat else 0
def lossd (a b c d : Int) : Int := if rok a b c d then ld0 a c + ld0 a c / 8 else 0

/-- A block that holds an estimate, and may be written. -/
structure R4 (w : World) (p : Nat) (a b c d : Int) : Prop where
  c0 : w.cell? ⟨p, 0, none⟩ = some (.int .i64 a)
  c1 : w.cell? ⟨p, 1, none⟩ = some (.int .i64 b)
  c2 : w.cell? ⟨p, 2, none⟩ = some (.int .i64 c)
  c3 : w.cell? ⟨p, 3, none⟩ = some (.int .i64 d)
  fz : ∀ i, w.frozen? ⟨p, i, none⟩ = false
theorem R4.new (w : World) (a b c d : Int) (T : TypeId) : R4 (w.alloc (.cells #[.int .i64 a, .int .i64 b, .int .i64 c, .int .i64 d] T)) w.heap.size a b c d := by
  refine ⟨?_, ?_, ?_, ?_, fun i => World.frozen?_alloc_at _ _ _ i rfl⟩ <;> (rw [World.cell?_alloc_mark]; rfl)
theorem R4.lt {w : World} {p : Nat} {a b c d : Int} (h : R4 w p a b c d) : p < w.heap.size := World.block_lt_of_cell? w _ h.c0
theorem R4.below {w w' : World} {p B : Nat} {a b c d : Int} (h : R4 w p a b c d) (hb : Below B w w') (hl : p < B) : R4 w' p a b c d :=
  ⟨(hb.cell (p := ⟨p, 0, none⟩) hl).trans h.c0, (hb.cell (p := ⟨p, 1, none⟩) hl).trans h.c1, (hb.cell (p := ⟨p, 2, none⟩) hl).trans h.c2, (hb.cell (p := ⟨p, 3, none⟩) hl).trans h.c3, fun i => (hb.frozen (p := ⟨p, i, none⟩) hl).trans (h.fz i)⟩
theorem R4.alloc {w : World} {p : Nat} {a b c d : Int} (h : R4 w p a b c d) (o : Obj) : R4 (w.alloc o) p a b c d := h.below ((Below.refl _ _).alloc (Nat.le_refl _) _) h.lt
theorem below_drewN {B : Nat} {a w : World} (h : Below B a w) : ∀ n, Below B a (w.drewN n)
  | 0 => h
  | n + 1 => (below_drewN h n).drew
theorem R4.drew {w : World} {p : Nat} {a b c d : Int} (h : R4 w p a b c d) (n : Nat) : R4 (w.drewN n) p a b c d := h.below (below_drewN (Below.refl w.heap.size w) n) h.lt
theorem R4.far {w : World} {p q i : Nat} {v : Value} {a b c d : Int} (h : R4 w p a b c d) (hn : q ≠ p) : R4 (w.setCell ⟨q, i, none⟩ v) p a b c d := by
  have hne : ∀ j : Nat, (⟨q, i, none⟩ : Addr) ≠ ⟨p, j, none⟩ := fun j e => hn (by injection e)
  exact ⟨(World.cell?_setCell_other _ _ _ _ (hne 0)).trans h.c0, (World.cell?_setCell_other _ _ _ _ (hne 1)).trans h.c1, (World.cell?_setCell_other _ _ _ _ (hne 2)).trans h.c2, (World.cell?_setCell_other _ _ _ _ (hne 3)).trans h.c3, fun j => by rw [World.frozen?_setCell]; exact h.fz j⟩
theorem R4.set0 {w : World} {p : Nat} {a b c d : Int} (h : R4 w p a b c d) (v : Int) : R4 (w.setCell ⟨p, 0, none⟩ (.int .i64 v)) p v b c d :=
  ⟨World.cell?_setCell_same _ _ _ h.c0, (World.cell?_setCell_other _ _ _ _ (by simp)).trans h.c1, (World.cell?_setCell_other _ _ _ _ (by simp)).trans h.c2, (World.cell?_setCell_other _ _ _ _ (by simp)).trans h.c3, fun j => by rw [World.frozen?_setCell]; exact h.fz j⟩
theorem R4.set1 {w : World} {p : Nat} {a b c d : Int} (h : R4 w p a b c d) (v : Int) : R4 (w.setCell ⟨p, 1, none⟩ (.int .i64 v)) p a v c d :=
  ⟨(World.cell?_setCell_other _ _ _ _ (by simp)).trans h.c0, World.cell?_setCell_same _ _ _ h.c1, (World.cell?_setCell_other _ _ _ _ (by simp)).trans h.c2, (World.cell?_setCell_other _ _ _ _ (by simp)).trans h.c3, fun j => by rw [World.frozen?_setCell]; exact h.fz j⟩
theorem R4.set2 {w : World} {p : Nat} {a b c d : Int} (h : R4 w p a b c d) (v : Int) : R4 (w.setCell ⟨p, 2, none⟩ (.int .i64 v)) p a b v d :=
  ⟨(World.cell?_setCell_other _ _ _ _ (by simp)).trans h.c0, (World.cell?_setCell_other _ _ _ _ (by simp)).trans h.c1, World.cell?_setCell_same _ _ _ h.c2, (World.cell?_setCell_other _ _ _ _ (by simp)).trans h.c3, fun j => by rw [World.frozen?_setCell]; exact h.fz j⟩
theorem R4.set3 {w : World} {p : Nat} {a b c d : Int} (h : R4 w p a b c d) (v : Int) : R4 (w.setCell ⟨p, 3, none⟩ (.int .i64 v)) p a b c v :=
  ⟨(World.cell?_setCell_other _ _ _ _ (by simp)).trans h.c0, (World.cell?_setCell_other _ _ _ _ (by simp)).trans h.c1, (World.cell?_setCell_other _ _ _ _ (by simp)).trans h.c2, World.cell?_setCell_same _ _ _ h.c3, fun j => by rw [World.frozen?_setCell]; exact h.fz j⟩

/-- All blocks but one stand as they stood. -/
structure Off (p : Nat) (w w' : World) : Prop where
  os : w'.os = w.os
  tape : w'.tape = w.tape
  output : w'.output = w.output
  size : w'.heap.size = w.heap.size
  block : ∀ k, k ≠ p → w'.heap[k]? = w.heap[k]?
theorem Off.refl (p : Nat) (w : World) : Off p w w := ⟨rfl, rfl, rfl, rfl, fun _ _ => rfl⟩
theorem Off.trans {p : Nat} {a b c : World} (h : Off p a b) (k : Off p b c) : Off p a c :=
  ⟨k.os.trans h.os, k.tape.trans h.tape, k.output.trans h.output, k.size.trans h.size, fun i hi => (k.block i hi).trans (h.block i hi)⟩
theorem Off.set {p : Nat} {a w : World} (h : Off p a w) (i : Nat) (v : Value) : Off p a (w.setCell ⟨p, i, none⟩ v) :=
  h.trans ⟨rfl, rfl, rfl, by simp [World.setCell], fun k hk => Below.heap_setCell _ _ _ _ hk⟩
theorem Off.drew {p : Nat} {a w : World} (h : Off p a w) : ∀ n, Off p a (w.drewN n)
  | 0 => h
  | n + 1 => by have k := h.drew n; exact ⟨k.os, k.tape, k.output, k.size, k.block⟩
theorem Off.below {p B : Nat} {w w' : World} (h : Off p w w') (hB : B ≤ p) : Below B w w' := ⟨h.os, h.tape, h.output, by rw [h.size]; exact Nat.le_refl _, fun k hk => h.block k (by omega)⟩
theorem Off.cell {p : Nat} {w w' : World} (h : Off p w w') {q : Addr} (hq : q.block ≠ p) : w'.cell? q = w.cell? q := World.cell?_of_block (w := w) (h.block q.block hq)
theorem Off.frozen {p : Nat} {w w' : World} (h : Off p w w') {q : Addr} (hq : q.block ≠ p) : w'.frozen? q = w.frozen? q := World.frozen?_of_block (w := w) (h.block q.block hq)
theorem R4.off {w w' : World} {p q : Nat} {a b c d : Int} (h : R4 w q a b c d) (k : Off p w w') (hq : q ≠ p) : R4 w' q a b c d :=
  ⟨(k.cell (q := ⟨q, 0, none⟩) hq).trans h.c0, (k.cell (q := ⟨q, 1, none⟩) hq).trans h.c1, (k.cell (q := ⟨q, 2, none⟩) hq).trans h.c2, (k.cell (q := ⟨q, 3, none⟩) hq).trans h.c3, fun i => (k.frozen (q := ⟨q, i, none⟩) hq).trans (h.fz i)⟩

theorem sm_pos {c : Int} (h0 : 0 ≤ c) (h1 : c ≤ 9000000000000000000) : wrap64 (c.tdiv 8) = c / 8 := by
  have e : c.tdiv 8 = c / 8 := Int.tdiv_eq_ediv_of_nonneg h0
  rw [e]; unfold wrap64; omega

end Go.Proofs.Ytfggldholaibeaa
