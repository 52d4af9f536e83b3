/- What TokenMake hands back, by cases; a block that holds a token. -/
import Derived.Test.YtbmlckhjjfipbaaDoorTkI
namespace Go.Proofs.YtbmlckhjjfipbaaDoor
open Go.RowKit
set_option linter.unusedVariables false
set_option linter.unusedSimpArgs false

theorem made_yes {s a t : Int} {w : World} {e : Ending} {w' : World} (k : tkok s a t) (h : Made s a t w e w') : e = .returned (.tuple #[.agg #[.int .i64 a, .int .i64 t, .int .i64 (tkt s a t)], .bool true]) ∧ Below w.heap.size w w' := by
  unfold Made at h
  rw [tkres_ok k, decide_eq_true k] at h
  exact h
theorem made_no {s a t : Int} {w : World} {e : Ending} {w' : World} (k : ¬ tkok s a t) (h : Made s a t w e w') : e = .returned (.tuple #[.agg #[.int .i64 0, .int .i64 0, .int .i64 0], .bool false]) ∧ Below w.heap.size w w' := by
  unfold Made at h
  rw [tkres_no k, decide_eq_false k] at h
  exact h

/-- A block that holds a token. -/
structure Tk3 (w : World) (b : Nat) (x y z : Int) : Prop where
  c0 : w.cell? ⟨b, 0, none⟩ = some (.int .i64 x)
  c1 : w.cell? ⟨b, 1, none⟩ = some (.int .i64 y)
  c2 : w.cell? ⟨b, 2, none⟩ = some (.int .i64 z)
theorem Tk3.new (w : World) (x y z : Int) (T : TypeId) : Tk3 (w.alloc (.cells #[.int .i64 x, .int .i64 y, .int .i64 z] T)) w.heap.size x y z := by
  refine ⟨?_, ?_, ?_⟩ <;> (rw [World.cell?_alloc_mark]; rfl)
theorem Tk3.lt {w : World} {b : Nat} {x y z : Int} (h : Tk3 w b x y z) : b < w.heap.size := World.block_lt_of_cell? w _ h.c0
theorem Tk3.below {w w' : World} {b : Nat} {x y z : Int} (h : Tk3 w b x y z) (hb : Below w.heap.size w w') : Tk3 w' b x y z :=
  ⟨(hb.cell h.lt).trans h.c0, (hb.cell h.lt).trans h.c1, (hb.cell h.lt).trans h.c2⟩
theorem Tk3.alloc {w : World} {b : Nat} {x y z : Int} (h : Tk3 w b x y z) (o : Obj) : Tk3 (w.alloc o) b x y z := h.below ((Below.refl _ _).alloc (Nat.le_refl _) _)

theorem Tk3.set2 {w : World} {b : Nat} {x y z : Int} (h : Tk3 w b x y z) (v : Int) : Tk3 (w.setCell ⟨b, 2, none⟩ (.int .i64 v)) b x y v :=
  ⟨(World.cell?_setCell_other _ _ _ _ (by simp)).trans h.c0, (World.cell?_setCell_other _ _ _ _ (by simp)).trans h.c1, World.cell?_setCell_same _ _ _ h.c2⟩
theorem Tk3.set1 {w : World} {b : Nat} {x y z : Int} (h : Tk3 w b x y z) (v : Int) : Tk3 (w.setCell ⟨b, 1, none⟩ (.int .i64 v)) b x v z :=
  ⟨(World.cell?_setCell_other _ _ _ _ (by simp)).trans h.c0, World.cell?_setCell_same _ _ _ h.c1, (World.cell?_setCell_other _ _ _ _ (by simp)).trans h.c2⟩
theorem Tk3.set0 {w : World} {b : Nat} {x y z : Int} (h : Tk3 w b x y z) (v : Int) : Tk3 (w.setCell ⟨b, 0, none⟩ (.int .i64 v)) b v y z :=
  ⟨World.cell?_setCell_same _ _ _ h.c0, (World.cell?_setCell_other _ _ _ _ (by simp)).trans h.c1, (World.cell?_setCell_other _ _ _ _ (by simp)).trans h.c2⟩
theorem Tk3.far {w : World} {b c i : Nat} {v : Value} {x y z : Int} (h : Tk3 w b x y z) (hn : c ≠ b) : Tk3 (w.setCell ⟨c, i, none⟩ v) b x y z := by
  have hne : ∀ j : Nat, (⟨c, i, none⟩ : Addr) ≠ ⟨b, j, none⟩ := fun j e => hn (by injection e)
  exact ⟨(World.cell?_setCell_other _ _ _ _ (hne 0)).trans h.c0, (World.cell?_setCell_other _ _ _ _ (hne 1)).trans h.c1, (World.cell?_setCell_other _ _ _ _ (hne 2)).trans h.c2⟩

end Go.Proofs.YtbmlckhjjfipbaaDoor
