/- Slices of tickets that may be cut or cloned. -/
import Derived.Test.YtlhjhdlpejpooabAppTc
namespace Go.Proofs.Ytlhjhdlpejpooab
open Go.RowKit
set_option linter.unusedVariables false
set_option linter.unusedSimpArgs false

/-- A slice of tickets that may be cut: not half nil, its length within its capacity. -/
def Tcs (w : World) (v : Value) (l : List Tic) : Prop := Tics w v l ∧ NilOk v ∧ ∃ a c, v = .slice a l.length c ∧ l.length ≤ c ∧ ∀ ad, a = some ad → ∃ g o, ad = ⟨g, o, none⟩
theorem Tcs.below {w w' : World} {v : Value} {l : List Tic} (h : Tcs w v l) (hb : Below w.heap.size w w') : Tcs w' v l := ⟨h.1.below hb, h.2⟩
theorem Tcs.of_own {w : World} {B : Nat} {v : Value} {l : List Tic} (h : OwnTc w B v l) : Tcs w v l := by
  refine ⟨Tics.of_own h, h.nilok, ?_⟩
  obtain ⟨h0, ⟨h1, h2⟩ | ⟨g, c, cur, he, _, _, hc, _⟩⟩ := h
  · exact ⟨none, 0, by rw [h2]; exact h1, by omega, fun ad h => by cases h⟩
  · exact ⟨_, c, he, hc, fun ad h => ⟨g, 0, (Option.some.inj h).symm⟩⟩

theorem tics_at {w : World} {a : Option Addr} {n c : Nat} {l : List Tic} (h : Tics w (.slice a n c) l) (hl : l ≠ []) : ∃ g o, a = some ⟨g, o, none⟩ ∧ ∀ i, i < l.length → w.cell? ⟨g, o + i * 2, none⟩ = some (.int .i64 (l.getD i (0, 0)).1) ∧ w.cell? ⟨g, o + i * 2 + 1, none⟩ = some (.int .i64 (l.getD i (0, 0)).2) := by
  obtain ⟨a', c', e', hcs⟩ := h
  simp only [Value.slice.injEq] at e'
  obtain ⟨rfl, _, rfl⟩ := e'
  exact hcs hl


end Go.Proofs.Ytlhjhdlpejpooab
