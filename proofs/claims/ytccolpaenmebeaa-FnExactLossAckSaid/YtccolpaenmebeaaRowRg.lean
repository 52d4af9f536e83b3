/- A slice of ranges that came in, opened to its cells. -/
import Derived.Test.YtccolpaenmebeaaRg
import Derived.Deep.SlicePairs
import Derived.ChangeArms
import Derived.ProofKit
namespace Go.Proofs.Ytccolpaenmebeaa
open Go.ChangeShapes Go.WideShapes Go.ChangeAt Go.RowKit Go.Deep
set_option linter.unusedVariables false
set_option linter.unusedSimpArgs false

theorem rngs_of_trod {H : Type} {enc : TypeId × Value → H} {W : World} {a : Option Addr} {len cap : Nat} {d : DataW H} {p : List MemPlace}
    (h : DataW.Trod enc Try.prog W 0 (fun _ => true) true 39 (.slice a len cap) d p) : ∃ l : List (Int × Int), (l.length = len ∧ len ≤ 9223372036854775807) ∧ Rngs W (.slice a len cap) l := by
  obtain ⟨fuel, hf⟩ := h
  rcases open_slice_pairs Try.underlying39 Try.underlying73 (by kernel_rfl) rfl rfl (by kernel_rfl) (by kernel_rfl) hf with ⟨hcs, _⟩ | ⟨ad, l, c, m, n, V0, V1, D0, D1, P0, P1, hcs, _, hl, hm, hmm, _, hel⟩
  · simp [Value.cells] at hcs
    obtain ⟨rfl, rfl, rfl⟩ := hcs
    exact ⟨[], ⟨rfl, by omega⟩, none, 0, rfl, fun hx => absurd rfl hx⟩
  · simp [Value.cells] at hcs
    obtain ⟨rfl, rfl, rfl⟩ := hcs
    have hm' : m = cap := by rw [hmm]; rfl
    refine ⟨(List.range len).map fun i => (intOf (V0 i), intOf (V1 i)), ⟨by simp, by unfold maxLen at hm; omega⟩, ?_⟩
    refine ⟨some ad, cap, by simp, fun hne => ?_⟩
    have hpos : 0 < len := by
      rcases Nat.eq_zero_or_pos len with h0 | h0
      · subst h0; simp at hne
      · exact h0
    obtain ⟨ab, off, spot⟩ := ad
    have hspot : spot = none := by
      have := World.cell?_spot (hel 0 (by omega)).1
      simpa [Addr.add] using this
    subst hspot
    refine ⟨ab, off, rfl, fun i hi => ?_⟩
    have hi' : i < len := by simpa using hi
    obtain ⟨c0, c1, t0, t1⟩ := hel i (by omega)
    obtain ⟨n0, e0, _, _⟩ := DataW.trod_int Try.underlying3 t0
    obtain ⟨n1, e1, _, _⟩ := DataW.trod_int Try.underlying3 t1
    have e0' : V0 i = .int .i64 n0 := by simpa using e0
    have e1' : V1 i = .int .i64 n1 := by simpa using e1
    have a0 : (⟨ab, off, none⟩ : Addr).add (i * 2) = ⟨ab, off + i * 2, none⟩ := by simp [Addr.add]
    have a1 : (⟨ab, off, none⟩ : Addr).add (i * 2 + 1) = ⟨ab, off + i * 2 + 1, none⟩ := by simp [Addr.add]; omega
    have hg : ((List.range len).map fun i => (intOf (V0 i), intOf (V1 i))).getD i (0, 0) = (n0, n1) := by
      rw [List.getD_eq_getElem?_getD, List.getElem?_map, List.getElem?_range hi']
      simp [e0', e1', intOf]
    rw [hg, ← a0, ← a1, c0, c1, e0', e1']
    exact ⟨rfl, rfl⟩

end Go.Proofs.Ytccolpaenmebeaa
