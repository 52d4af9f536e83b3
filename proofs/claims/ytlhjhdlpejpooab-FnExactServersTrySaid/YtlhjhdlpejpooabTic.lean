/- Slices of tickets: what they hold, rows of the call's own. -/
import Derived.Test.YtlhjhdlpejpooabRpMath
import Derived.Test.YtlhjhdlpejpooabOwn
import Derived.Below
import Derived.WalkSmall
namespace Go.Proofs.Ytlhjhdlpejpooab
open Go.RowKit
set_option linter.unusedVariables false
set_option linter.unusedSimpArgs false

/-- A slice whose elements read as the tickets l. -/
def Tics (w : World) (v : Value) (l : List (Int × Int)) : Prop :=
  ∃ a c, v = .slice a l.length c ∧ (l ≠ [] → ∃ g o, a = some ⟨g, o, none⟩ ∧ ∀ i, i < l.length → w.cell? ⟨g, o + i * 2, none⟩ = some (.int .i64 (l.getD i (0, 0)).1) ∧ w.cell? ⟨g, o + i * 2 + 1, none⟩ = some (.int .i64 (l.getD i (0, 0)).2))

theorem Tics.below {w w' : World} {v : Value} {l : List (Int × Int)} (h : Tics w v l) (hb : Below w.heap.size w w') : Tics w' v l := by
  obtain ⟨a, c, rfl, h⟩ := h
  refine ⟨a, c, rfl, fun hx => ?_⟩
  obtain ⟨g, o, rfl, hc⟩ := h hx
  exact ⟨g, o, rfl, fun i hi => ⟨(hb.cell (World.block_lt_of_cell? w _ (hc i hi).1)).trans (hc i hi).1, (hb.cell (World.block_lt_of_cell? w _ (hc i hi).2)).trans (hc i hi).2⟩⟩

/-- The cells of a list of tickets. -/
def tcells (l : List (Int × Int)) : List Value := l.flatMap fun r => [.int .i64 r.1, .int .i64 r.2]
theorem tcells_len (l : List (Int × Int)) : (tcells l).length = l.length * 2 := by
  induction l with
  | nil => rfl
  | cons r t ih => simp [tcells] at ih ⊢; omega
theorem tcells_snoc (l : List (Int × Int)) (a b : Int) : tcells (l ++ [(a, b)]) = tcells l ++ [.int .i64 a, .int .i64 b] := by simp [tcells]
theorem try_infoTicket : (Try.prog.info? 38).map (fun i => (i.zero, i.size, i.bytes)) = some (some (.agg #[.int .i64 0, .int .i64 0]), 2, 16) := by kernel_rfl
theorem onet (a b : Int) : ∀ u ∈ [Value.int .i64 a, Value.int .i64 b], u.oneCell' = true := by
  intro u hu
  simp at hu
  rcases hu with rfl | rfl <;> rfl

/-- A list of the call's own. -/
def OwnTc (w : World) (B : Nat) (v : Value) (l : List (Int × Int)) : Prop := w.ownsRow B 38 2 v l.length (tcells l)

theorem owntc_snoc {w : World} {B : Nat} {v : Value} {l : List (Int × Int)} {a b : Int} (h : w.ownsRow B 38 2 v (l.length + 1) (tcells l ++ [.int .i64 a, .int .i64 b])) : OwnTc w B v (l ++ [(a, b)]) := by
  unfold OwnTc
  rw [tcells_snoc, List.length_append]
  exact h
theorem owntc_snoc2 {w : World} {B : Nat} {v : Value} {l : List (Int × Int)} {a b p q : Int} (h : w.ownsRow B 38 2 v (l.length + 1 + 1) (tcells l ++ [.int .i64 a, .int .i64 b] ++ [.int .i64 p, .int .i64 q])) : OwnTc w B v (l ++ [(a, b)] ++ [(p, q)]) := by
  unfold OwnTc
  rw [tcells_snoc, tcells_snoc, List.length_append, List.length_append]
  exact h
theorem nn_after {v v' : Value} {m : Nat} (hn : v ≠ .slice none 0 0) (h : v' = .slice none 0 0 ↔ v = .slice none 0 0 ∧ m = 0) : v' ≠ .slice none 0 0 := fun e => hn (h.1 e).1

theorem tcells_at : ∀ (l : List (Int × Int)) (i : Nat), i < l.length → (tcells l)[i * 2]? = some (.int .i64 (l.getD i (0, 0)).1) ∧ (tcells l)[i * 2 + 1]? = some (.int .i64 (l.getD i (0, 0)).2)
  | [], i, h => by simp at h
  | r :: t, 0, _ => by simp [tcells]
  | r :: t, i + 1, h => by
    have ih := tcells_at t i (by simpa using h)
    have e : tcells (r :: t) = .int .i64 r.1 :: .int .i64 r.2 :: tcells t := by simp [tcells]
    rw [e, show (i + 1) * 2 = i * 2 + 1 + 1 from by omega, show i * 2 + 1 + 1 + 1 = (i * 2 + 1) + 1 + 1 from by omega]
    simpa using ih
theorem Tics.of_own {w : World} {B : Nat} {v : Value} {l : List (Int × Int)} (h : OwnTc w B v l) : Tics w v l := by
  unfold OwnTc at h
  have h' := h
  obtain ⟨_, ⟨rfl, h0⟩ | ⟨g, c, cur, rfl, _⟩⟩ := h
  · exact ⟨none, 0, by rw [h0], fun hx => absurd (List.length_eq_zero_iff.1 h0) hx⟩
  · refine ⟨some ⟨g, 0, none⟩, c, rfl, fun _ => ⟨g, 0, rfl, fun i hi => ?_⟩⟩
    obtain ⟨r1, r2⟩ := tcells_at l i hi
    have c1 := h'.cellAt (i * 2) (by omega)
    have c2 := h'.cellAt (i * 2 + 1) (by omega)
    rw [r1] at c1
    rw [r2] at c2
    rw [Nat.zero_add]
    exact ⟨c1, c2⟩
theorem OwnTc.below {w w' : World} {B : Nat} {v : Value} {l : List (Int × Int)} (h : OwnTc w B v l) (hb : Below w.heap.size w w') : OwnTc w' B v l := own_below h hb
theorem OwnTc.lower {w : World} {B B' : Nat} {v : Value} {l : List (Int × Int)} (h : OwnTc w B v l) (hB : B' ≤ B) : OwnTc w B' v l := by
  obtain ⟨h0, h | ⟨g, c, cur, h1, h2, h3⟩⟩ := h
  · exact ⟨h0, .inl h⟩
  · exact ⟨h0, .inr ⟨g, c, cur, h1, by omega, h3⟩⟩
theorem OwnTc.picked {w w' : World} {B b : Nat} {v : Value} {l : List (Int × Int)} (h : OwnTc w B v l) (hg : w.grownBy w' (some b)) (hb : b < B) : OwnTc w' B v l := by
  refine World.ownsRow.kept h hg (.inr fun hq => ?_)
  have := (World.ownsRow.lt h b hq).1
  omega

end Go.Proofs.Ytlhjhdlpejpooab
