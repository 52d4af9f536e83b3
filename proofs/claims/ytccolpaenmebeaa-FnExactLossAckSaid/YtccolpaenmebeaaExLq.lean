/- What the exact laws of states share: the argument, the model's answer, the copy, the program's answer, each in its variable. -/
import Derived.Test.YtccolpaenmebeaaEqLs
import Derived.Test.YtccolpaenmebeaaMkLs
import Derived.Test.YtccolpaenmebeaaRowLs
import Derived.Deep.RegionHeld3
import Derived.Deep.Cut
namespace Go.Proofs.Ytccolpaenmebeaa
open Go.RowKit
set_option linter.unusedVariables false
set_option linter.unusedSimpArgs false

structure XS (w W : World) (n g n' g' : Int) (v v2 v3 v4 : Value) (p2 p3 p4 : Nat) (m M3 M4 : List Pk) : Prop where
  bel : Below w.heap.size w W
  ar : C3 W w.heap.size (.int .i64 n) v (.int .i64 g)
  x2 : C3 W p2 (.int .i64 n') v2 (.int .i64 g')
  x3 : C3 W p3 (.int .i64 n) v3 (.int .i64 g)
  x4 : C3 W p4 (.int .i64 n') v4 (.int .i64 g')
  o2 : OwnPk W 0 v2 m
  o3 : OwnPk W 0 v3 M3
  o4 : OwnPk W 0 v4 M4
  q2 : ∀ b, v2.ownBlock = some b → w.heap.size < b ∧ b < p2
  q3 : ∀ b, v3.ownBlock = some b → p2 < b ∧ b < p3
  q4 : ∀ b, v4.ownBlock = some b → p3 < b ∧ b < p4
  ord : w.heap.size < p2 ∧ p2 < p3 ∧ p3 < p4
theorem XS.below {w W W' : World} {n g n' g' : Int} {v v2 v3 v4 : Value} {p2 p3 p4 : Nat} {m M3 M4 : List Pk} (h : XS w W n g n' g' v v2 v3 v4 p2 p3 p4 m M3 M4) (hb : Below W.heap.size W W') : XS w W' n g n' g' v v2 v3 v4 p2 p3 p4 m M3 M4 :=
  ⟨h.bel.trans (hb.mono h.bel.size), h.ar.below hb, h.x2.below hb, h.x3.below hb, h.x4.below hb, h.o2.below hb, h.o3.below hb, h.o4.below hb, h.q2, h.q3, h.q4, h.ord⟩
theorem XS.drew {w W : World} {n g n' g' : Int} {v v2 v3 v4 : Value} {p2 p3 p4 : Nat} {m M3 M4 : List Pk} (h : XS w W n g n' g' v v2 v3 v4 p2 p3 p4 m M3 M4) : XS w W.drew n g n' g' v v2 v3 v4 p2 p3 p4 m M3 M4 := h.below (Below.refl _ _).drew
theorem XS.alloc {w W : World} {n g n' g' : Int} {v v2 v3 v4 : Value} {p2 p3 p4 : Nat} {m M3 M4 : List Pk} (h : XS w W n g n' g' v v2 v3 v4 p2 p3 p4 m M3 M4) (o : Obj) : XS w (W.alloc o) n g n' g' v v2 v3 v4 p2 p3 p4 m M3 M4 := h.below ((Below.refl _ _).alloc (Nat.le_refl _) _)
/-- The copy is marked. -/
theorem XS.mark3 {w W W' : World} {n g n' g' : Int} {v v2 v3 v4 : Value} {p2 p3 p4 : Nat} {m M3 M4 : List Pk} {M : List Pk} (h : XS w W n g n' g' v v2 v3 v4 p2 p3 p4 m M3 M4) (hg : W.grownBy W' v3.ownBlock) (ho : OwnPk W' 0 v3 M) : XS w W' n g n' g' v v2 v3 v4 p2 p3 p4 m M M4 := by
  obtain ⟨r1, r2, r3⟩ := h.ord
  have far : ∀ b, (b ≤ p2 ∨ p3 ≤ b) → some b ≠ v3.ownBlock := fun b hb e => by have := h.q3 b e.symm; omega
  have ne : ∀ u : Value, (∀ b, u.ownBlock = some b → b ≤ p2 ∨ p3 ≤ b) → u.ownBlock = none ∨ u.ownBlock ≠ v3.ownBlock := fun u hu => by
    cases hq : u.ownBlock with
    | none => exact .inl rfl
    | some g => exact .inr (far g (hu g hq))
  exact ⟨h.bel.grown hg h.bel.size (fun j hj => by have := h.q3 j hj; omega), h.ar.kept hg (far _ (by omega)), h.x2.kept hg (far _ (by omega)), h.x3.kept hg (far _ (by omega)), h.x4.kept hg (far _ (by omega)),
    World.ownsRow.kept h.o2 hg (ne _ (fun g k => by have := h.q2 g k; omega)), ho, World.ownsRow.kept h.o4 hg (ne _ (fun g k => by have := h.q4 g k; omega)), h.q2, h.q3, h.q4, h.ord⟩
/-- The answer is marked. -/
theorem XS.mark4 {w W W' : World} {n g n' g' : Int} {v v2 v3 v4 : Value} {p2 p3 p4 : Nat} {m M3 M4 : List Pk} {M : List Pk} (h : XS w W n g n' g' v v2 v3 v4 p2 p3 p4 m M3 M4) (hg : W.grownBy W' v4.ownBlock) (ho : OwnPk W' 0 v4 M) : XS w W' n g n' g' v v2 v3 v4 p2 p3 p4 m M3 M := by
  obtain ⟨r1, r2, r3⟩ := h.ord
  have far : ∀ b, (b ≤ p3 ∨ p4 ≤ b) → some b ≠ v4.ownBlock := fun b hb e => by have := h.q4 b e.symm; omega
  have ne : ∀ u : Value, (∀ b, u.ownBlock = some b → b ≤ p3 ∨ p4 ≤ b) → u.ownBlock = none ∨ u.ownBlock ≠ v4.ownBlock := fun u hu => by
    cases hq : u.ownBlock with
    | none => exact .inl rfl
    | some g => exact .inr (far g (hu g hq))
  exact ⟨h.bel.grown hg h.bel.size (fun j hj => by have := h.q4 j hj; omega), h.ar.kept hg (far _ (by omega)), h.x2.kept hg (far _ (by omega)), h.x3.kept hg (far _ (by omega)), h.x4.kept hg (far _ (by omega)),
    World.ownsRow.kept h.o2 hg (ne _ (fun g k => by have := h.q2 g k; omega)), World.ownsRow.kept h.o3 hg (ne _ (fun g k => by have := h.q3 g k; omega)), ho, h.q2, h.q3, h.q4, h.ord⟩
theorem XS.cells {w W : World} {n g n' g' : Int} {v v2 v3 v4 : Value} {p2 p3 p4 : Nat} {m M3 M4 : List Pk} (h : XS w W n g n' g' v v2 v3 v4 p2 p3 p4 m M3 M4) :
    W.cell? ⟨w.heap.size, 0, none⟩ = some (.int .i64 n) ∧ W.cell? ⟨w.heap.size, 1, none⟩ = some v ∧ W.cell? ⟨w.heap.size, 2, none⟩ = some (.int .i64 g) ∧ W.cell? ⟨p2, 0, none⟩ = some (.int .i64 n') ∧ W.cell? ⟨p2, 1, none⟩ = some v2 ∧ W.cell? ⟨p2, 2, none⟩ = some (.int .i64 g') ∧ W.cell? ⟨p3, 0, none⟩ = some (.int .i64 n) ∧ W.cell? ⟨p3, 1, none⟩ = some v3 ∧ W.cell? ⟨p3, 2, none⟩ = some (.int .i64 g) ∧ W.cell? ⟨p4, 0, none⟩ = some (.int .i64 n') ∧ W.cell? ⟨p4, 1, none⟩ = some v4 ∧ W.cell? ⟨p4, 2, none⟩ = some (.int .i64 g') :=
  ⟨h.ar.c0, h.ar.c1, h.ar.c2, h.x2.c0, h.x2.c1, h.x2.c2, h.x3.c0, h.x3.c1, h.x3.c2, h.x4.c0, h.x4.c1, h.x4.c2⟩
theorem OwnPk.zero {w : World} {B : Nat} {v : Value} {l : List Pk} (h : OwnPk w B v l) : OwnPk w 0 v l := OwnPk.lower h (Nat.zero_le _)
theorem lsendv_len {s : Ls} {t y : Int} {r : Ls × Int × Bool} (h : lsendv s t y = r) (hl : s.2.1.length ≤ 1048576) : r.1.2.1.length ≤ 1048576 := by
  subst h
  unfold lsendv
  split
  · rename_i k
    have k3 := k.1.2.2.1
    unfold lsend
    split
    · exact hl
    · simp only [List.length_append, List.length_cons, List.length_nil]; omega
  · simp

end Go.Proofs.Ytccolpaenmebeaa
