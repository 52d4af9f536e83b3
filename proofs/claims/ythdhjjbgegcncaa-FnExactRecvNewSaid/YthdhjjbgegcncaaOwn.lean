/- Rows of the call's own: kept, apart, below. -/
import Derived.Test.YthdhjjbgegcncaaBase
import Derived.Laws.OwnMore
import Derived.Deep.AppendLies
import Derived.Deep.Draws
namespace Go.Proofs.Ythdhjjbgegcncaa
open Go.RowKit
set_option linter.unusedVariables false
set_option linter.unusedSimpArgs false

theorem try_infoInt : (Try.prog.info? 3).map (fun i => (i.zero, i.size, i.bytes)) = some (some (.int .i64 0), 1, 8) := by kernel_rfl
theorem below_drewN' {B : Nat} {a w : World} (h : Below B a w) (n : Nat) : Below B a (w.drewN n) := ⟨h.os, h.tape, h.output, h.size, h.block⟩
theorem own_new (T : TypeId) (k B : Nat) (w : World) (h : B ≤ w.heap.size) : (w.alloc (.cells #[] T)).ownsRow B T k (.slice (some ⟨w.heap.size, 0, none⟩) 0 0) 0 [] :=
  ⟨by simp, .inr ⟨w.heap.size, 0, #[], rfl, h, by show (w.heap.push _)[w.heap.size]? = _; simp, Nat.le_refl _, by unfold maxLen; omega, by simp, by simp⟩⟩
theorem ownsRow_empty_at (B : Nat) (w : World) (h : B ≤ w.heap.size) : (w.alloc (.cells #[] 3)).ownsRow B 3 1 (.slice (some ⟨w.heap.size, 0, none⟩) 0 0) 0 [] :=
  ⟨rfl, .inr ⟨w.heap.size, 0, #[], rfl, h, by show (w.heap.push _)[w.heap.size]? = _; simp, Nat.le_refl _, by unfold maxLen; omega, rfl, rfl⟩⟩
theorem ownsRow_empty (w : World) : (w.alloc (.cells #[] 3)).ownsRow w.heap.size 3 1 (.slice (some ⟨w.heap.size, 0, none⟩) 0 0) ([] : List Int).length (([] : List Int).map (Value.int .i64)) := ownsRow_empty_at _ w (Nat.le_refl _)
theorem ownsRow_shape {w : World} {B n : Nat} {e : TypeId} {k : Nat} {v : Value} {xs : List Value} (h : w.ownsRow B e k v n xs) : ∃ a c, v = .slice a n c := by
  obtain ⟨_, h | ⟨g, c, cur, h, _⟩⟩ := h
  · exact ⟨none, 0, by rw [h.1, h.2]⟩
  · exact ⟨_, c, h⟩
theorem own_below {w w' : World} {B n : Nat} {e : TypeId} {k : Nat} {v : Value} {xs : List Value} (h : w.ownsRow B e k v n xs) (hb : Below w.heap.size w w') : w'.ownsRow B e k v n xs := by
  obtain ⟨h0, h | ⟨g, c, cur, h1, h2, h3, h4⟩⟩ := h
  · exact ⟨h0, .inl h⟩
  · refine ⟨h0, .inr ⟨g, c, cur, h1, h2, ?_, h4⟩⟩
    rw [hb.block g (by have := (Array.getElem?_eq_some_iff.1 h3).1; exact this)]; exact h3
theorem below_own {w w1 w2 : World} {B n : Nat} {e : TypeId} {k : Nat} {v : Value} {xs : List Value} {o : Obj} (h : Below B w w1) (hown : w1.ownsRow B e k v n xs) (hB : B ≤ w1.heap.size) (hg : (w1.alloc o).grownBy w2 v.ownBlock) : Below B w w2 := by
  refine (h.alloc hB o).grown hg (by simp; omega) fun j hj => ?_
  obtain ⟨_, hv | ⟨g, c, cur, h1, h2, _⟩⟩ := hown
  · rw [hv.1] at hj; cases hj
  · rw [h1] at hj; injection hj with hj; simp at hj; omega

theorem own_ne {w1 w2 : World} {B B2 n m : Nat} {e : TypeId} {k : Nat} {v u : Value} {xs ys : List Value} (hu : w1.ownsRow B e k u n xs) (hv : w2.ownsRow B2 e k v m ys) (hB : w1.heap.size ≤ B2) : u.ownBlock = none ∨ u.ownBlock ≠ v.ownBlock := by
  cases hq : u.ownBlock with
  | none => exact .inl rfl
  | some g =>
    right
    have := hu.lt g hq
    intro e
    have := hv.lt g e.symm
    omega


end Go.Proofs.Ythdhjjbgegcncaa
