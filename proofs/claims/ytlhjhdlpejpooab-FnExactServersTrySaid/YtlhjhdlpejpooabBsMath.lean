/- Binary search and insertion in ascending lists of tickets. -/
import Derived.Test.YtlhjhdlpejpooabRpMath
namespace Go.Proofs.Ytlhjhdlpejpooab
open Go.RowKit
set_option linter.unusedVariables false
set_option linter.unusedSimpArgs false

theorem pw_at {l : List Tic} (h : l.Pairwise TL) {a b : Nat} (hab : a < b) (hb : b < l.length) : TL (l.getD a (0, 0)) (l.getD b (0, 0)) := by
  have := List.pairwise_iff_getElem.1 h a b (by omega) hb hab
  rwa [List.getD_eq_getElem?_getD, List.getD_eq_getElem?_getD, List.getElem?_eq_getElem hb, List.getElem?_eq_getElem (show a < l.length by omega)]
/-- Where a binary search for t stands. -/
structure BsI (l : List Tic) (t : Tic) (i j : Nat) : Prop where
  ij : i ≤ j
  jl : j ≤ l.length
  lo : ∀ k, k < i → TL (l.getD k (0, 0)) t
  hi : ∀ k, j ≤ k → k < l.length → ¬ TL (l.getD k (0, 0)) t
theorem BsI.start (l : List Tic) (t : Tic) : BsI l t 0 l.length := ⟨Nat.zero_le _, Nat.le_refl _, fun k h => by omega, fun k h h2 => by omega⟩
theorem BsI.right {l : List Tic} {t : Tic} {i j h : Nat} (hp : l.Pairwise TL) (b : BsI l t i j) (h1 : i ≤ h) (h2 : h < j) (hc : TL (l.getD h (0, 0)) t) : BsI l t (h + 1) j := by
  refine ⟨by omega, b.jl, fun k hk => ?_, b.hi⟩
  by_cases e : k = h
  · subst e; exact hc
  · exact (pw_at hp (show k < h by omega) (by have := b.jl; omega)).trans hc
theorem BsI.left {l : List Tic} {t : Tic} {i j h : Nat} (hp : l.Pairwise TL) (b : BsI l t i j) (h1 : i ≤ h) (h2 : h < j) (hc : ¬ TL (l.getD h (0, 0)) t) : BsI l t i h := by
  refine ⟨by omega, by have := b.jl; omega, b.lo, fun k h3 h4 => ?_⟩
  by_cases e : k = h
  · subst e; exact hc
  · exact fun q => hc ((pw_at hp (show h < k by omega) h4).trans q)

theorem ins_at {l : List Tic} {k : Nat} {t : Tic} (hp : l.Pairwise TL) (hk : k ≤ l.length) (h1 : ∀ z ∈ l.take k, TL z t) (h2 : k < l.length → ¬ TL (l.getD k (0, 0)) t) (h3 : k < l.length → l.getD k (0, 0) ≠ t) : ins t l = l.take k ++ t :: l.drop k ∧ t ∉ l := by
  have hd : ∀ z ∈ l.drop k, ¬ TL z t ∧ z ≠ t := by
    intro z hz
    by_cases hkl : k < l.length
    · have e := h2 hkl
      have e3 := h3 hkl
      rw [List.getD_eq_getElem?_getD, List.getElem?_eq_getElem hkl] at e e3
      rw [List.drop_eq_getElem_cons hkl] at hz
      rcases List.mem_cons.1 hz with rfl | hz
      · exact ⟨e, e3⟩
      · have hlt : TL l[k] z := by
          have hp2 : (l.drop k).Pairwise TL := hp.sublist (List.drop_sublist _ _)
          rw [List.drop_eq_getElem_cons hkl] at hp2
          exact (List.pairwise_cons.1 hp2).1 z hz
        exact ⟨fun q => e (hlt.trans q), fun q => e (q ▸ hlt)⟩
    · rw [List.drop_eq_nil_iff.2 (by omega)] at hz; cases hz
  refine ⟨?_, fun hm => ?_⟩
  · have := ins_split (t := t) (a := l.take k) (b := l.drop k) h1 (fun z hz => (hd z hz).1)
    rwa [List.take_append_drop] at this
  · rw [← List.take_append_drop k l] at hm
    rcases List.mem_append.1 hm with hm | hm
    · exact TL.irr t (h1 t hm)
    · exact (hd t hm).2 rfl
/-- A search's end: the place, and whether the ticket stands there. -/
theorem BsI.done {l : List Tic} {t : Tic} {p : Nat} (hp : l.Pairwise TL) (b : BsI l t p p) :
    (t ∈ l ↔ p < l.length ∧ l.getD p (0, 0) = t) ∧ (t ∉ l → ins t l = l.take p ++ t :: l.drop p) := by
  have h1 : ∀ z ∈ l.take p, TL z t := by
    intro z hz
    obtain ⟨i, hi, rfl⟩ := List.getElem_of_mem hz
    have hi' : i < p := by rw [List.length_take] at hi; omega
    have hil : i < l.length := by rw [List.length_take] at hi; omega
    have := b.lo i hi'
    rw [List.getD_eq_getElem?_getD, List.getElem?_eq_getElem hil] at this
    rw [List.getElem_take]; exact this
  have h2 : p < l.length → ¬ TL (l.getD p (0, 0)) t := b.hi p (Nat.le_refl _)
  by_cases h3 : p < l.length → l.getD p (0, 0) ≠ t
  · have k := ins_at hp b.jl h1 h2 h3
    exact ⟨⟨fun h => absurd h k.2, fun h => absurd h.2 (h3 h.1)⟩, fun _ => k.1⟩
  · have h4 : p < l.length ∧ l.getD p (0, 0) = t := by
      by_cases hpl : p < l.length
      · exact ⟨hpl, Decidable.byContradiction fun h => h3 fun _ => h⟩
      · exact absurd (fun h => absurd h hpl) h3
    have hm : t ∈ l := by
      rw [← h4.2, List.getD_eq_getElem?_getD, List.getElem?_eq_getElem h4.1]
      exact List.getElem_mem h4.1
    exact ⟨⟨fun _ => h4, fun _ => hm⟩, fun h => absurd hm h⟩

end Go.Proofs.Ytlhjhdlpejpooab
