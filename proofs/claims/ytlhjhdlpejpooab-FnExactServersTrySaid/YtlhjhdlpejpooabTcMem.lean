/- Rows of tickets: one ticket overwritten, two exchanged, the row cut. -/
import Derived.Test.YtlhjhdlpejpooabTic
import Derived.Test.YtlhjhdlpejpooabHpMath
import Derived.Laws.OwnMore
namespace Go.Proofs.Ytlhjhdlpejpooab
open Go.RowKit
set_option linter.unusedVariables false
set_option linter.unusedSimpArgs false

theorem tcells_set : ∀ (l : List Tic) (i : Nat) (t : Tic), ((tcells l).set (i * 2) (.int .i64 t.1)).set (i * 2 + 1) (.int .i64 t.2) = tcells (l.set i t)
  | [], i, t => by simp [tcells]
  | r :: l, 0, t => by simp [tcells]
  | r :: l, i + 1, t => by
    have ih := tcells_set l i t
    have e : ∀ (q : Tic) (m : List Tic), tcells (q :: m) = .int .i64 q.1 :: .int .i64 q.2 :: tcells m := fun q m => by simp [tcells]
    rw [e, List.set_cons_succ, e, show (i + 1) * 2 = i * 2 + 1 + 1 from by omega, List.set_cons_succ, List.set_cons_succ, List.set_cons_succ, show i * 2 + 2 = (i * 2 + 1) + 1 from by omega, List.set_cons_succ, ih]
theorem OwnTc.put {w : World} {B g c n : Nat} {l : List Tic} (h : OwnTc w B (.slice (some ⟨g, 0, none⟩) n c) l) (hn : n = l.length) (i : Nat) (t : Tic) :
    OwnTc ((w.setCell ⟨g, i * 2, none⟩ (.int .i64 t.1)).setCell ⟨g, i * 2 + 1, none⟩ (.int .i64 t.2)) B (.slice (some ⟨g, 0, none⟩) n c) (l.set i t) := by
  subst hn
  have h1 := (World.ownsRow.stored h (i * 2) (.int .i64 t.1)).1
  have h2 := (World.ownsRow.stored h1 (i * 2 + 1) (.int .i64 t.2)).1
  rw [tcells_set] at h2
  unfold OwnTc
  rw [List.length_set]
  exact h2
theorem tcells_take (l : List Tic) (m : Nat) : (tcells l).take (m * 2) = tcells (l.take m) := by
  induction l generalizing m with
  | nil => simp [tcells]
  | cons r t ih =>
    have e : ∀ (q : Tic) (m : List Tic), tcells (q :: m) = .int .i64 q.1 :: .int .i64 q.2 :: tcells m := fun q m => by simp [tcells]
    cases m with
    | zero => simp [tcells]
    | succ m => rw [e, List.take_succ_cons, e, show (m + 1) * 2 = m * 2 + 1 + 1 from by omega, List.take_succ_cons, List.take_succ_cons, ih]
theorem OwnTc.cut {w : World} {B c n m : Nat} {aa : Option Addr} {l : List Tic} (h : OwnTc w B (.slice aa n c) l) (ha : aa ≠ none) (hm : m ≤ l.length) : OwnTc w B (.slice aa m c) (l.take m) := by
  obtain ⟨h0, ⟨h1, _⟩ | ⟨g, c', cur, he, hb, hg, hc, hcm, hs, ht⟩⟩ := h
  · injection h1 with h1; exact absurd h1 ha
  · injection he with e1 e2 e3
    subst e1; subst e3
    have hl : (l.take m).length = m := by rw [List.length_take, Nat.min_eq_left hm]
    refine ⟨by rw [tcells_len], .inr ⟨g, _, cur, by rw [hl], hb, hg, by omega, hcm, hs, ?_⟩⟩
    rw [hl, ← tcells_take, ← ht, List.take_take, Nat.min_eq_left (by omega)]
/-- Two tickets of a row exchanged: the second's place written first. -/
theorem OwnTc.swap {w : World} {B g c n : Nat} {l : List Tic} (h : OwnTc w B (.slice (some ⟨g, 0, none⟩) n c) l) (hn : n = l.length) (i j : Nat) :
    OwnTc ((((w.setCell ⟨g, i * 2, none⟩ (.int .i64 (l.getD j (0, 0)).1)).setCell ⟨g, i * 2 + 1, none⟩ (.int .i64 (l.getD j (0, 0)).2)).setCell ⟨g, j * 2, none⟩ (.int .i64 (l.getD i (0, 0)).1)).setCell ⟨g, j * 2 + 1, none⟩ (.int .i64 (l.getD i (0, 0)).2)) B (.slice (some ⟨g, 0, none⟩) n c) (swp l i j) :=
  (h.put hn i (l.getD j (0, 0))).put (by rw [List.length_set]; exact hn) j (l.getD i (0, 0))

end Go.Proofs.Ytlhjhdlpejpooab
