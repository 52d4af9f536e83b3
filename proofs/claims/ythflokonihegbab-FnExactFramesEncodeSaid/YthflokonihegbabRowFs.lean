/- A list of frames that came in, opened to its cells. -/
import Derived.Test.YthflokonihegbabRowFr
import Derived.Test.YthflokonihegbabSFs
import Derived.Deep.Slices
namespace Go.Proofs.Ythflokonihegbab
open Go.ChangeShapes Go.WideShapes Go.ChangeAt Go.RowKit Go.Deep
set_option linter.unusedVariables false
set_option linter.unusedSimpArgs false

theorem addr_add (b o j : Nat) : (⟨b, o, none⟩ : Addr).add j = ⟨b, o + j, none⟩ := by
  unfold Addr.add; split
  · rename_i h0; rw [h0]; rfl
  · rfl
set_option maxRecDepth 100000 in
theorem frs_of_trod {H : Type} {enc : TypeId × Value → H} {W : World} {a : Option Addr} {len cap : Nat} {d : DataW H} {p : List MemPlace}
    (h : DataW.Trod enc Try.prog W 0 (fun _ => true) true 38 (.slice a len cap) d p) : ∃ l : List Fr, (l.length = len ∧ len ≤ 9223372036854775807) ∧ Frs W (.slice a len cap) l ∧ ∀ f ∈ l, f.rs.length ≤ 9223372036854775807 ∧ f.d.size ≤ maxLen := by
  obtain ⟨fuel, hf⟩ := h
  rcases open_slice Try.underlying38 hf with ⟨hcs, _⟩ | ⟨ad, l, c, m, n, D, Pl, hcs, _, hl, hm, hmm, _, hx⟩
  · simp [Value.cells] at hcs
    obtain ⟨rfl, rfl, rfl⟩ := hcs
    exact ⟨[], ⟨rfl, by omega⟩, ⟨none, 0, rfl, fun hx => absurd rfl hx⟩, fun f hf => by simp at hf⟩
  · simp [Value.cells] at hcs
    obtain ⟨rfl, rfl, rfl⟩ := hcs
    have hC : Try.prog.cellsOf 24 = 6 := by kernel_rfl
    have hlm : len ≤ m := by rw [hmm]; split <;> omega
    rw [hC] at hx
    haveI : Inhabited (Fr × Option Addr × Nat) := ⟨(frD, none, 0)⟩
    obtain ⟨q, hq⟩ := choose_lt (n := len) (p := fun i (q : Fr × Option Addr × Nat) => (∀ k, k < 6 → W.cell? ((ad.add (i * 6)).add k) = [Value.int .i64 q.1.k, .int .i64 q.1.a, .int .i64 q.1.b, .int .i64 q.1.c, .string q.1.d, .slice q.2.1 q.1.rs.length q.2.2][k]?) ∧ q.1.rs.length ≤ 9223372036854775807 ∧ q.1.d.size ≤ maxLen ∧ Rngs W (.slice q.2.1 q.1.rs.length q.2.2) q.1.rs) (fun i hi => by
      obtain ⟨cs', h1, h2⟩ := hx i (by omega)
      obtain ⟨_, hlen, hcell⟩ := World.cells?_some h1
      obtain ⟨f, ra, rc, hc, k1, k2, k3⟩ := fr_of_cells h2
      subst hc
      exact ⟨(f, ra, rc), fun k hk => hcell k hk, k1, k2, k3⟩)
    refine ⟨(List.range len).map fun i => (q i).1, ⟨by simp, by unfold maxLen at hm; omega⟩, ?_, ?_⟩
    · refine ⟨some ad, cap, by simp, fun hne => ?_⟩
      have hpos : 0 < len := by
        rcases Nat.eq_zero_or_pos len with h0 | h0
        · subst h0; simp at hne
        · exact h0
      obtain ⟨ab, off, spot⟩ := ad
      have hspot : spot = none := by
        have := World.cell?_spot ((hq 0 hpos).1 0 (by omega))
        simpa [Addr.add] using this
      subst hspot
      refine ⟨ab, off, rfl, fun i hi => ?_⟩
      have hi' : i < len := by simpa using hi
      obtain ⟨h1, _, _, h4⟩ := hq i hi'
      have ha : ∀ k, (((⟨ab, off, none⟩ : Addr).add (i * 6)).add k) = ⟨ab, off + i * 6 + k, none⟩ := fun k => by rw [addr_add, addr_add]
      have e : ((List.range len).map fun i => (q i).1).getD i frD = (q i).1 := by
        rw [List.getD_eq_getElem?_getD, List.getElem?_map, List.getElem?_range hi']; rfl
      rw [e]
      have g : ∀ k, k < 6 → W.cell? ⟨ab, off + i * 6 + k, none⟩ = _ := fun k hk => (congrArg W.cell? (ha k)).symm.trans (h1 k hk)
      exact ⟨(q i).2.1, (q i).2.2, g 0 (by omega), g 1 (by omega), g 2 (by omega), g 3 (by omega), g 4 (by omega), g 5 (by omega), h4⟩
    · intro f hf
      obtain ⟨i, hi, rfl⟩ := List.mem_map.1 hf
      obtain ⟨_, h2, h3, _⟩ := hq i (List.mem_range.1 hi)
      exact ⟨h2, h3⟩
end Go.Proofs.Ythflokonihegbab
