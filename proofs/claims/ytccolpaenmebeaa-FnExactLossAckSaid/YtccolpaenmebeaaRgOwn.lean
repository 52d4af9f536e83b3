/- Rows of ranges that the call owns. -/
import Derived.Test.YtccolpaenmebeaaRg
import Derived.WalkSmall
namespace Go.Proofs.Ytccolpaenmebeaa
open Go.RowKit
set_option linter.unusedVariables false
set_option linter.unusedSimpArgs false

/-- The cells of a list of ranges. -/
def rcells (l : List (Int × Int)) : List Value := l.flatMap fun r => [.int .i64 r.1, .int .i64 r.2]
theorem rcells_len (l : List (Int × Int)) : (rcells l).length = l.length * 2 := by
  induction l with
  | nil => rfl
  | cons r t ih => simp [rcells] at ih ⊢; omega
theorem rcells_snoc (l : List (Int × Int)) (a b : Int) : rcells (l ++ [(a, b)]) = rcells l ++ [.int .i64 a, .int .i64 b] := by simp [rcells]
theorem try_infoRange : (Try.prog.info? 69).map (fun i => (i.zero, i.size, i.bytes)) = some (some (.agg #[.int .i64 0, .int .i64 0]), 2, 16) := by kernel_rfl
theorem one2 (a b : Int) : ∀ u ∈ [Value.int .i64 a, Value.int .i64 b], u.oneCell' = true := by
  intro u hu
  simp at hu
  rcases hu with rfl | rfl <;> rfl

/-- A list of the call's own. -/
def OwnRg (w : World) (B : Nat) (v : Value) (l : List (Int × Int)) : Prop := w.ownsRow B 69 2 v l.length (rcells l)
def bnd (x : Int) : Prop := -1000000000 ≤ x ∧ x ≤ 1000000000

theorem own_snoc {w : World} {B : Nat} {v : Value} {l : List (Int × Int)} {a b : Int} (h : w.ownsRow B 69 2 v (l.length + 1) (rcells l ++ [.int .i64 a, .int .i64 b])) : OwnRg w B v (l ++ [(a, b)]) := by
  unfold OwnRg
  rw [rcells_snoc, List.length_append]
  exact h
theorem own_snoc2 {w : World} {B : Nat} {v : Value} {l : List (Int × Int)} {a b p q : Int} (h : w.ownsRow B 69 2 v (l.length + 1 + 1) (rcells l ++ [.int .i64 a, .int .i64 b] ++ [.int .i64 p, .int .i64 q])) : OwnRg w B v (l ++ [(a, b)] ++ [(p, q)]) := by
  unfold OwnRg
  rw [rcells_snoc, rcells_snoc, List.length_append, List.length_append]
  exact h
theorem nn_after {v v' : Value} {m : Nat} (hn : v ≠ .slice none 0 0) (h : v' = .slice none 0 0 ↔ v = .slice none 0 0 ∧ m = 0) : v' ≠ .slice none 0 0 := fun e => hn (h.1 e).1

theorem rcells_at : ∀ (l : List (Int × Int)) (i : Nat), i < l.length → (rcells l)[i * 2]? = some (.int .i64 (l.getD i (0, 0)).1) ∧ (rcells l)[i * 2 + 1]? = some (.int .i64 (l.getD i (0, 0)).2)
  | [], i, h => by simp at h
  | r :: t, 0, _ => by simp [rcells]
  | r :: t, i + 1, h => by
    have ih := rcells_at t i (by simpa using h)
    have e : rcells (r :: t) = .int .i64 r.1 :: .int .i64 r.2 :: rcells t := by simp [rcells]
    rw [e, show (i + 1) * 2 = i * 2 + 1 + 1 from by omega, show i * 2 + 1 + 1 + 1 = (i * 2 + 1) + 1 + 1 from by omega]
    simpa using ih
theorem Rngs.of_own {w : World} {B : Nat} {v : Value} {l : List (Int × Int)} (h : OwnRg w B v l) : Rngs w v l := by
  unfold OwnRg at h
  have h' := h
  obtain ⟨_, ⟨rfl, h0⟩ | ⟨g, c, cur, rfl, _⟩⟩ := h
  · exact ⟨none, 0, by rw [h0], fun hx => absurd (List.length_eq_zero_iff.1 h0) hx⟩
  · refine ⟨some ⟨g, 0, none⟩, c, rfl, fun _ => ⟨g, 0, rfl, fun i hi => ?_⟩⟩
    obtain ⟨r1, r2⟩ := rcells_at l i hi
    have c1 := h'.cellAt (i * 2) (by omega)
    have c2 := h'.cellAt (i * 2 + 1) (by omega)
    rw [r1] at c1
    rw [r2] at c2
    rw [Nat.zero_add]
    exact ⟨c1, c2⟩
theorem OwnRg.below {w w' : World} {B : Nat} {v : Value} {l : List (Int × Int)} (h : OwnRg w B v l) (hb : Below w.heap.size w w') : OwnRg w' B v l := own_below h hb
theorem OwnRg.lower {w : World} {B B' : Nat} {v : Value} {l : List (Int × Int)} (h : OwnRg w B v l) (hB : B' ≤ B) : OwnRg w B' v l := by
  obtain ⟨h0, h | ⟨g, c, cur, h1, h2, h3⟩⟩ := h
  · exact ⟨h0, .inl h⟩
  · exact ⟨h0, .inr ⟨g, c, cur, h1, by omega, h3⟩⟩
theorem OwnRg.picked {w w' : World} {B b : Nat} {v : Value} {l : List (Int × Int)} (h : OwnRg w B v l) (hg : w.grownBy w' (some b)) (hb : b < B) : OwnRg w' B v l := by
  refine World.ownsRow.kept h hg (.inr fun hq => ?_)
  have := (World.ownsRow.lt h b hq).1
  omega

end Go.Proofs.Ytccolpaenmebeaa
