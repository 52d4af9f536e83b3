/- A list of boxes, a list of ints that came in, opened to their cells. -/
import Derived.Test.YtakfohcnclmkbabBxs
import Derived.Test.YtakfohcnclmkbabIMp
import Derived.Deep.Slices
import Derived.Deep.Fields
import Derived.ChangeArms
import Derived.ProofKit
namespace Go.Proofs.Ytakfohcnclmkbab
open Go.ChangeShapes Go.WideShapes Go.ChangeAt Go.RowKit Go.Deep
set_option linter.unusedVariables false
set_option linter.unusedSimpArgs false

theorem addr_add (b o j : Nat) : (⟨b, o, none⟩ : Addr).add j = ⟨b, o + j, none⟩ := by
  unfold Addr.add; split
  · rename_i h0; rw [h0]; rfl
  · rfl
set_option maxRecDepth 100000 in
/-- A cell that reads as a slice of ints. -/
theorem ints_of_cells {H : Type} {enc : TypeId × Value → H} {W : World} {v : Value} {fuel : Nat} {y : DataW H × List MemPlace}
    (hf : DataW.trod enc Try.prog W 0 (fun _ => true) true fuel 29 [v] = some y) : ∃ (a : Option Addr) (cap : Nat) (xs : List Int), v = .slice a xs.length cap ∧ xs.length ≤ 9223372036854775807 ∧ Ints W v xs := by
  rcases open_slice Try.underlying29 hf with ⟨hcs, _⟩ | ⟨ad, len, cap, m, n, D, Pl, hcs, _, hl, hm, hmm, _, hx⟩
  · have : v = .slice none 0 0 := by simpa using hcs
    subst this
    exact ⟨none, 0, [], rfl, by simp, none, 0, rfl, fun hx => absurd rfl hx⟩
  · have hv : v = .slice (some ad) len cap := by simpa using hcs
    subst hv
    have hC : Try.prog.cellsOf 3 = 1 := by kernel_rfl
    have hlm : len ≤ m := by rw [hmm]; split <;> omega
    rw [hC] at hx
    obtain ⟨q, hq⟩ := choose_lt (n := len) (p := fun i (q : Int) => W.cell? (ad.add i) = some (.int .i64 q)) (fun i hi => by
      obtain ⟨cs', h1, h2⟩ := hx i (by omega)
      obtain ⟨_, hlen, hcell⟩ := World.cells?_some h1
      obtain ⟨n0, e0, _, _⟩ := DataW.trod_int Try.underlying3 h2
      have hc0 := hcell 0 (by omega)
      rw [e0] at hc0
      refine ⟨n0, ?_⟩
      have ea : (ad.add (i * 1)).add 0 = ad.add i := by rw [Nat.mul_one, Addr.add_add, Nat.add_zero]
      rw [ea] at hc0
      exact hc0)
    refine ⟨some ad, cap, (List.range len).map q, by simp, by simp; unfold maxLen at hm; omega, some ad, cap, by simp, fun hne => ?_⟩
    have hpos : 0 < len := by
      rcases Nat.eq_zero_or_pos len with h0 | h0
      · subst h0; simp at hne
      · exact h0
    obtain ⟨ab, off, spot⟩ := ad
    have hspot : spot = none := by
      have := World.cell?_spot (hq 0 hpos)
      simpa [Addr.add] using this
    subst hspot
    refine ⟨ab, off, rfl, fun i hi => ?_⟩
    have hi' : i < len := by simpa using hi
    have e : ((List.range len).map q).getD i 0 = q i := by
      rw [List.getD_eq_getElem?_getD, List.getElem?_map, List.getElem?_range hi']; rfl
    rw [e, ← addr_add]
    exact hq i hi'
theorem list2 {α : Type} : ∀ (l : List α), l.length = 2 → ∃ a b, l = [a, b]
  | [a, b], _ => ⟨a, b, rfl⟩
  | [], h => by simp at h
  | [_], h => by simp at h
  | _ :: _ :: _ :: _, h => by simp at h
set_option maxRecDepth 100000 in
/-- Two cells that read as a box. -/
theorem bx_of_cells {H : Type} {enc : TypeId × Value → H} {W : World} {cs : List Value} {fuel : Nat} {y : DataW H × List MemPlace}
    (hf : DataW.trod enc Try.prog W 0 (fun _ => true) true fuel 41 cs = some y) : ∃ (b : Bx) (ra : Option Addr) (rc : Nat), cs = [.int .i64 b.1, .slice ra b.2.length rc] ∧ b.2.length ≤ 9223372036854775807 ∧ i64ok b.1 ∧ Ints W (.slice ra b.2.length rc) b.2 := by
  obtain ⟨xs, n, _, _, hlen, hxl, hel⟩ := DataW.trod_struct Try.underlying41 hf
  have hC : Try.prog.cellsOf 41 = 2 := by kernel_rfl
  rw [hC] at hlen
  obtain ⟨v0, v1, rfl⟩ := list2 cs hlen
  have ci : Try.prog.cellsOf 3 = 1 := by kernel_rfl
  have cr : Try.prog.cellsOf 29 = 1 := by kernel_rfl
  have hx : ∀ i, i < 2 → ∃ y, xs[i]? = some y := fun i hi => ⟨_, List.getElem?_eq_getElem (by rw [hxl]; exact hi)⟩
  obtain ⟨y0, e0⟩ := hx 0 (by omega)
  obtain ⟨y1, e1⟩ := hx 1 (by omega)
  have h0 : DataW.trod enc Try.prog W 0 (fun _ => true) true n 3 (([v0, v1].drop 0).take (Try.prog.cellsOf 3)) = some y0 := (hel 0 _ rfl).trans e0
  have h1 : DataW.trod enc Try.prog W 0 (fun _ => true) true n 29 (([v0, v1].drop 1).take (Try.prog.cellsOf 29)) = some y1 := (hel 1 _ rfl).trans e1
  rw [ci] at h0
  rw [cr] at h1
  obtain ⟨n0, k0, _, wf⟩ := DataW.trod_int Try.underlying3 h0
  have k0' : v0 = .int .i64 n0 := by simpa using k0
  obtain ⟨ra, rc, l, k1, hl, hr⟩ := ints_of_cells (v := v1) (by simpa using h1)
  subst k0' k1
  exact ⟨(n0, l), ra, rc, rfl, hl, wf, hr⟩
set_option maxRecDepth 100000 in
theorem ints_of_trod {H : Type} {enc : TypeId × Value → H} {W : World} {a : Option Addr} {len cap : Nat} {d : DataW H} {p : List MemPlace}
    (h : DataW.Trod enc Try.prog W 0 (fun _ => true) true 29 (.slice a len cap) d p) : ∃ xs : List Int, (xs.length = len ∧ len ≤ 9223372036854775807) ∧ Ints W (.slice a len cap) xs := by
  obtain ⟨fuel, hf⟩ := h
  obtain ⟨a', c', xs, he, hl, hi⟩ := ints_of_cells (v := .slice a len cap) (by simpa [Value.cells] using hf)
  injection he with _ e2 _
  exact ⟨xs, ⟨e2.symm, by omega⟩, hi⟩
set_option maxRecDepth 100000 in
theorem bxs_of_trod {H : Type} {enc : TypeId × Value → H} {W : World} {a : Option Addr} {len cap : Nat} {d : DataW H} {p : List MemPlace}
    (h : DataW.Trod enc Try.prog W 0 (fun _ => true) true 22 (.slice a len cap) d p) : ∃ l : List Bx, (l.length = len ∧ len ≤ 9223372036854775807) ∧ Bxs W (.slice a len cap) l ∧ ∀ b ∈ l, b.2.length ≤ 9223372036854775807 ∧ i64ok b.1 := by
  obtain ⟨fuel, hf⟩ := h
  rcases open_slice Try.underlying22 hf with ⟨hcs, _⟩ | ⟨ad, l, c, m, n, D, Pl, hcs, _, hl, hm, hmm, _, hx⟩
  · simp [Value.cells] at hcs
    obtain ⟨rfl, rfl, rfl⟩ := hcs
    exact ⟨[], ⟨rfl, by omega⟩, ⟨none, 0, rfl, fun hx => absurd rfl hx⟩, fun f hf => by simp at hf⟩
  · simp [Value.cells] at hcs
    obtain ⟨rfl, rfl, rfl⟩ := hcs
    have hC : Try.prog.cellsOf 41 = 2 := by kernel_rfl
    have hlm : len ≤ m := by rw [hmm]; split <;> omega
    rw [hC] at hx
    haveI : Inhabited (Bx × Option Addr × Nat) := ⟨(bxD, none, 0)⟩
    obtain ⟨q, hq⟩ := choose_lt (n := len) (p := fun i (q : Bx × Option Addr × Nat) => (∀ k, k < 2 → W.cell? ((ad.add (i * 2)).add k) = [Value.int .i64 q.1.1, .slice q.2.1 q.1.2.length q.2.2][k]?) ∧ q.1.2.length ≤ 9223372036854775807 ∧ i64ok q.1.1 ∧ Ints W (.slice q.2.1 q.1.2.length q.2.2) q.1.2) (fun i hi => by
      obtain ⟨cs', h1, h2⟩ := hx i (by omega)
      obtain ⟨_, hlen, hcell⟩ := World.cells?_some h1
      obtain ⟨f, ra, rc, hc, k1, k2, k3⟩ := bx_of_cells h2
      subst hc
      exact ⟨(f, ra, rc), fun k hk => hcell k hk, k1, k2, k3⟩)
    refine ⟨(List.range len).map fun i => (q i).1, ⟨by simp, by unfold maxLen at hm; omega⟩, ?_, ?_⟩
    · refine ⟨some ad, cap, by simp, fun hne => ?_⟩
      have hpos : 0 < len := by
        rcases Nat.eq_zero_or_pos len with h0 | h0
        · subst h0; simp at hne
        · exact h0
      obtain ⟨ab, off, spot⟩ := ad
      have hspot : spot = none := by
        have := World.cell?_spot ((hq 0 hpos).1 0 (by omega))
        simpa [Addr.add] using this
      subst hspot
      refine ⟨ab, off, rfl, fun i hi => ?_⟩
      have hi' : i < len := by simpa using hi
      obtain ⟨h1, _, _, h4⟩ := hq i hi'
      have ha : ∀ k, (((⟨ab, off, none⟩ : Addr).add (i * 2)).add k) = ⟨ab, off + i * 2 + k, none⟩ := fun k => by rw [addr_add, addr_add]
      have e : ((List.range len).map fun i => (q i).1).getD i bxD = (q i).1 := by
        rw [List.getD_eq_getElem?_getD, List.getElem?_map, List.getElem?_range hi']; rfl
      rw [e]
      have g : ∀ k, k < 2 → W.cell? ⟨ab, off + i * 2 + k, none⟩ = _ := fun k hk => (congrArg W.cell? (ha k)).symm.trans (h1 k hk)
      exact ⟨(q i).2.1, (q i).2.2, g 0 (by omega), g 1 (by omega), h4⟩
    · intro f hf
      obtain ⟨i, hi, rfl⟩ := List.mem_map.1 hf
      obtain ⟨_, h2, h3, _⟩ := hq i (List.mem_range.1 hi)
      exact ⟨h2, h3⟩
end Go.Proofs.Ytakfohcnclmkbab
