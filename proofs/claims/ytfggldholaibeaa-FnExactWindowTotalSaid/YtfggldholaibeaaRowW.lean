/- Slices of windows that came in as arguments. -/
import Derived.Test.YtfggldholaibeaaWdRow
import Derived.Deep.Slices
import Derived.Deep.Strs
import Derived.ChangeArms
import Derived.ProofKit
import Derived.OpenShut
namespace Go.Proofs.Ytfggldholaibeaa
open Go.ChangeShapes Go.WideShapes Go.ChangeAt Go.RowKit Go.Deep
set_option linter.unusedVariables false
set_option linter.unusedSimpArgs false

theorem addr_addp (b o j : Nat) : (⟨b, o, none⟩ : Addr).add j = ⟨b, o + j, none⟩ := by
  unfold Addr.add; split
  · rename_i h0; rw [h0]; rfl
  · rfl
theorem list4p {α : Type} : ∀ (l : List α), l.length = 4 → ∃ a b c d, l = [a, b, c, d]
  | [a, b, c, d], _ => ⟨a, b, c, d, rfl⟩
  | [], h => by simp at h
  | [_], h => by simp at h
  | [_, _], h => by simp at h
  | [_, _, _], h => by simp at h
  | _ :: _ :: _ :: _ :: _ :: _, h => by simp at h
set_option maxRecDepth 100000 in
/-- Four cells that read as a window. -/
theorem wd_of_cells {H : Type} {enc : TypeId × Value → H} {W : World} {cs : List Value} {fuel : Nat} {y : DataW H × List MemPlace}
    (hf : DataW.trod enc Try.prog W 0 (fun _ => true) true fuel 38 cs = some y) : ∃ q : Wd, cs = wcell q := by
  obtain ⟨xs, n, _, _, hlen, hxl, hel⟩ := DataW.trod_struct Try.underlying38 hf
  have hC : Try.prog.cellsOf 38 = 4 := by kernel_rfl
  rw [hC] at hlen
  obtain ⟨v0, v1, v2, v3, rfl⟩ := list4p cs hlen
  have ci : Try.prog.cellsOf 3 = 1 := by kernel_rfl
  have hx : ∀ i, i < 4 → ∃ y, xs[i]? = some y := fun i hi => ⟨_, List.getElem?_eq_getElem (by rw [hxl]; exact hi)⟩
  obtain ⟨y0, e0⟩ := hx 0 (by omega)
  obtain ⟨y1, e1⟩ := hx 1 (by omega)
  obtain ⟨y2, e2⟩ := hx 2 (by omega)
  obtain ⟨y3, e3⟩ := hx 3 (by omega)
  have h0 : DataW.trod enc Try.prog W 0 (fun _ => true) true n 3 (([v0, v1, v2, v3].drop 0).take (Try.prog.cellsOf 3)) = some y0 := (hel 0 _ rfl).trans e0
  have h1 : DataW.trod enc Try.prog W 0 (fun _ => true) true n 3 (([v0, v1, v2, v3].drop 1).take (Try.prog.cellsOf 3)) = some y1 := (hel 1 _ rfl).trans e1
  have h2 : DataW.trod enc Try.prog W 0 (fun _ => true) true n 3 (([v0, v1, v2, v3].drop 2).take (Try.prog.cellsOf 3)) = some y2 := (hel 2 _ rfl).trans e2
  have h3 : DataW.trod enc Try.prog W 0 (fun _ => true) true n 3 (([v0, v1, v2, v3].drop 3).take (Try.prog.cellsOf 3)) = some y3 := (hel 3 _ rfl).trans e3
  rw [ci] at h0 h1 h2 h3
  obtain ⟨n0, k0, _, _⟩ := DataW.trod_int Try.underlying3 h0
  obtain ⟨n1, k1, _, _⟩ := DataW.trod_int Try.underlying3 h1
  obtain ⟨n2, k2, _, _⟩ := DataW.trod_int Try.underlying3 h2
  obtain ⟨n3, k3, _, _⟩ := DataW.trod_int Try.underlying3 h3
  have k0' : v0 = .int .i64 n0 := by simpa using k0
  have k1' : v1 = .int .i64 n1 := by simpa using k1
  have k2' : v2 = .int .i64 n2 := by simpa using k2
  have k3' : v3 = .int .i64 n3 := by simpa using k3
  subst k0' k1' k2' k3'
  exact ⟨(n0, n1, n2, n3), rfl⟩
set_option maxRecDepth 100000 in
theorem wds_of_trod {H : Type} {enc : TypeId × Value → H} {W : World} {a : Option Addr} {len cap : Nat} {d : DataW H} {p : List MemPlace}
    (h : DataW.Trod enc Try.prog W 0 (fun _ => true) true 22 (.slice a len cap) d p) : ∃ l : List Wd, (l.length = len ∧ len ≤ 9223372036854775807) ∧ Wds W (.slice a len cap) l := by
  obtain ⟨fuel, hf⟩ := h
  rcases open_slice Try.underlying22 hf with ⟨hcs, _⟩ | ⟨ad, l, c, m, n, D, Pl, hcs, _, hl, hm, hmm, _, hx⟩
  · simp [Value.cells] at hcs
    obtain ⟨rfl, rfl, rfl⟩ := hcs
    exact ⟨[], ⟨rfl, by omega⟩, none, 0, rfl, Nat.le_refl _, fun hx => absurd rfl hx⟩
  · simp [Value.cells] at hcs
    obtain ⟨rfl, rfl, rfl⟩ := hcs
    have hC : Try.prog.cellsOf 38 = 4 := by kernel_rfl
    have hlm : len ≤ m := by rw [hmm]; split <;> omega
    rw [hC] at hx
    haveI : Inhabited Wd := ⟨wdD⟩
    obtain ⟨q, hq⟩ := choose_lt (n := len) (p := fun i (q : Wd) => (∀ k, k < 4 → W.cell? ((ad.add (i * 4)).add k) = (wcell q)[k]?)) (fun i hi => by
      obtain ⟨cs', h1, h2⟩ := hx i (by omega)
      obtain ⟨_, hlen, hcell⟩ := World.cells?_some h1
      obtain ⟨f, hc⟩ := wd_of_cells h2
      subst hc
      exact ⟨f, fun k hk => hcell k hk⟩)
    refine ⟨(List.range len).map fun i => q i, ⟨by simp, by unfold maxLen at hm; omega⟩, ?_⟩
    refine ⟨some ad, cap, by simp, by simpa using hl, fun hne => ?_⟩
    have hpos : 0 < len := by
      rcases Nat.eq_zero_or_pos len with h0 | h0
      · subst h0; simp at hne
      · exact h0
    obtain ⟨ab, off, spot⟩ := ad
    have hspot : spot = none := by
      have := World.cell?_spot (hq 0 hpos 0 (by omega))
      simpa [Addr.add] using this
    subst hspot
    refine ⟨ab, off, rfl, fun i hi => ?_⟩
    have hi' : i < len := by simpa using hi
    have h1 := hq i hi'
    have ha : ∀ k, (((⟨ab, off, none⟩ : Addr).add (i * 4)).add k) = ⟨ab, off + i * 4 + k, none⟩ := fun k => by rw [addr_addp, addr_addp]
    have e : ((List.range len).map fun i => q i).getD i wdD = q i := by
      rw [List.getD_eq_getElem?_getD, List.getElem?_map, List.getElem?_range hi']; rfl
    rw [e]
    have g : ∀ k, k < 4 → W.cell? ⟨ab, off + i * 4 + k, none⟩ = _ := fun k hk => (congrArg W.cell? (ha k)).symm.trans (h1 k hk)
    exact ⟨g 0 (by omega), g 1 (by omega), g 2 (by omega), g 3 (by omega)⟩
end Go.Proofs.Ytfggldholaibeaa
