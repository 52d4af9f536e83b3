/- States of chapter 22 that came in as arguments: an int, a slice of packets, an int. -/
import Derived.Test.YtccolpaenmebeaaPk
import Derived.Deep.Slices
import Derived.Deep.Strs
import Derived.ChangeArms
import Derived.ProofKit
import Derived.OpenShut
namespace Go.Proofs.Ytccolpaenmebeaa
open Go.ChangeShapes Go.WideShapes Go.ChangeAt Go.RowKit Go.Deep
set_option linter.unusedVariables false
set_option linter.unusedSimpArgs false

theorem addr_addp (b o j : Nat) : (⟨b, o, none⟩ : Addr).add j = ⟨b, o + j, none⟩ := by
  unfold Addr.add; split
  · rename_i h0; rw [h0]; rfl
  · rfl
theorem list3p {α : Type} : ∀ (l : List α), l.length = 3 → ∃ a b c, l = [a, b, c]
  | [a, b, c], _ => ⟨a, b, c, rfl⟩
  | [], h => by simp at h
  | [_], h => by simp at h
  | [_, _], h => by simp at h
  | _ :: _ :: _ :: _ :: _, h => by simp at h
set_option maxRecDepth 100000 in
/-- Three cells that read as a packet. -/
theorem pk_of_cells {H : Type} {enc : TypeId × Value → H} {W : World} {cs : List Value} {fuel : Nat} {y : DataW H × List MemPlace}
    (hf : DataW.trod enc Try.prog W 0 (fun _ => true) true fuel 87 cs = some y) : ∃ q : Pk, cs = pcell q := by
  obtain ⟨xs, n, _, _, hlen, hxl, hel⟩ := DataW.trod_struct Try.underlying87 hf
  have hC : Try.prog.cellsOf 87 = 3 := by kernel_rfl
  rw [hC] at hlen
  obtain ⟨v0, v1, v2, rfl⟩ := list3p cs hlen
  have ci : Try.prog.cellsOf 3 = 1 := by kernel_rfl
  have hx : ∀ i, i < 3 → ∃ y, xs[i]? = some y := fun i hi => ⟨_, List.getElem?_eq_getElem (by rw [hxl]; exact hi)⟩
  obtain ⟨y0, e0⟩ := hx 0 (by omega)
  obtain ⟨y1, e1⟩ := hx 1 (by omega)
  obtain ⟨y2, e2⟩ := hx 2 (by omega)
  have h0 : DataW.trod enc Try.prog W 0 (fun _ => true) true n 3 (([v0, v1, v2].drop 0).take (Try.prog.cellsOf 3)) = some y0 := (hel 0 _ rfl).trans e0
  have h1 : DataW.trod enc Try.prog W 0 (fun _ => true) true n 3 (([v0, v1, v2].drop 1).take (Try.prog.cellsOf 3)) = some y1 := (hel 1 _ rfl).trans e1
  have h2 : DataW.trod enc Try.prog W 0 (fun _ => true) true n 3 (([v0, v1, v2].drop 2).take (Try.prog.cellsOf 3)) = some y2 := (hel 2 _ rfl).trans e2
  rw [ci] at h0 h1 h2
  obtain ⟨n0, k0, _, _⟩ := DataW.trod_int Try.underlying3 h0
  obtain ⟨n1, k1, _, _⟩ := DataW.trod_int Try.underlying3 h1
  obtain ⟨n2, k2, _, _⟩ := DataW.trod_int Try.underlying3 h2
  have k0' : v0 = .int .i64 n0 := by simpa using k0
  have k1' : v1 = .int .i64 n1 := by simpa using k1
  have k2' : v2 = .int .i64 n2 := by simpa using k2
  subst k0' k1' k2'
  exact ⟨(n0, n1, n2), rfl⟩
set_option maxRecDepth 100000 in
theorem pks_of_trod {H : Type} {enc : TypeId × Value → H} {W : World} {a : Option Addr} {len cap : Nat} {d : DataW H} {p : List MemPlace}
    (h : DataW.Trod enc Try.prog W 0 (fun _ => true) true 29 (.slice a len cap) d p) : ∃ l : List Pk, (l.length = len ∧ len ≤ 9223372036854775807) ∧ Pks W (.slice a len cap) l := by
  obtain ⟨fuel, hf⟩ := h
  rcases open_slice Try.underlying29 hf with ⟨hcs, _⟩ | ⟨ad, l, c, m, n, D, Pl, hcs, _, hl, hm, hmm, _, hx⟩
  · simp [Value.cells] at hcs
    obtain ⟨rfl, rfl, rfl⟩ := hcs
    exact ⟨[], ⟨rfl, by omega⟩, none, 0, rfl, Nat.le_refl _, fun hx => absurd rfl hx⟩
  · simp [Value.cells] at hcs
    obtain ⟨rfl, rfl, rfl⟩ := hcs
    have hC : Try.prog.cellsOf 87 = 3 := by kernel_rfl
    have hlm : len ≤ m := by rw [hmm]; split <;> omega
    rw [hC] at hx
    haveI : Inhabited Pk := ⟨pkD⟩
    obtain ⟨q, hq⟩ := choose_lt (n := len) (p := fun i (q : Pk) => (∀ k, k < 3 → W.cell? ((ad.add (i * 3)).add k) = (pcell q)[k]?)) (fun i hi => by
      obtain ⟨cs', h1, h2⟩ := hx i (by omega)
      obtain ⟨_, hlen, hcell⟩ := World.cells?_some h1
      obtain ⟨f, hc⟩ := pk_of_cells h2
      subst hc
      exact ⟨f, fun k hk => hcell k hk⟩)
    refine ⟨(List.range len).map fun i => q i, ⟨by simp, by unfold maxLen at hm; omega⟩, ?_⟩
    refine ⟨some ad, cap, by simp, by simpa using hl, fun hne => ?_⟩
    have hpos : 0 < len := by
      rcases Nat.eq_zero_or_pos len with h0 | h0
      · subst h0; simp at hne
      · exact h0
    obtain ⟨ab, off, spot⟩ := ad
    have hspot : spot = none := by
      have := World.cell?_spot (hq 0 hpos 0 (by omega))
      simpa [Addr.add] using this
    subst hspot
    refine ⟨ab, off, rfl, fun i hi => ?_⟩
    have hi' : i < len := by simpa using hi
    have h1 := hq i hi'
    have ha : ∀ k, (((⟨ab, off, none⟩ : Addr).add (i * 3)).add k) = ⟨ab, off + i * 3 + k, none⟩ := fun k => by rw [addr_addp, addr_addp]
    have e : ((List.range len).map fun i => q i).getD i pkD = q i := by
      rw [List.getD_eq_getElem?_getD, List.getElem?_map, List.getElem?_range hi']; rfl
    rw [e]
    have g : ∀ k, k < 3 → W.cell? ⟨ab, off + i * 3 + k, none⟩ = _ := fun k hk => (congrArg W.cell? (ha k)).symm.trans (h1 k hk)
    exact ⟨g 0 (by omega), g 1 (by omega), g 2 (by omega)⟩
set_option maxRecDepth 100000 in
/-- A cell that reads as a slice of packets. -/
theorem pks_of_cells {H : Type} {enc : TypeId × Value → H} {W : World} {v : Value} {fuel : Nat} {y : DataW H × List MemPlace}
    (hf : DataW.trod enc Try.prog W 0 (fun _ => true) true fuel 29 [v] = some y) : ∃ (a : Option Addr) (cap : Nat) (xs : List Pk), v = .slice a xs.length cap ∧ xs.length ≤ 9223372036854775807 ∧ Pks W v xs := by
  have key : ∃ a n c, v = .slice a n c := by
    rcases open_slice Try.underlying29 hf with ⟨hcs, _⟩ | ⟨ad, len, cap, m, n, D, Pl, hcs, _⟩
    · exact ⟨none, 0, 0, by simpa using hcs⟩
    · exact ⟨some ad, len, cap, by simpa using hcs⟩
  obtain ⟨a, n, c, rfl⟩ := key
  obtain ⟨l, ⟨rfl, h2⟩, h3⟩ := pks_of_trod (d := y.1) (p := y.2) ⟨fuel, by simpa [Value.cells] using hf⟩
  exact ⟨a, c, l, rfl, h2, h3⟩
set_option maxRecDepth 100000 in
/-- Three cells that read as a state. -/
theorem loss_of_cells {H : Type} {enc : TypeId × Value → H} {W : World} {cs : List Value} {fuel : Nat} {y : DataW H × List MemPlace}
    (hf : DataW.trod enc Try.prog W 0 (fun _ => true) true fuel 31 cs = some y) : ∃ (b : Ls) (ra : Option Addr) (rc : Nat), cs = [.int .i64 b.1, .slice ra b.2.1.length rc, .int .i64 b.2.2] ∧ b.2.1.length ≤ 9223372036854775807 ∧ Pks W (.slice ra b.2.1.length rc) b.2.1 := by
  obtain ⟨xs, n, _, _, hlen, hxl, hel⟩ := DataW.trod_struct Try.underlying31 hf
  have hC : Try.prog.cellsOf 31 = 3 := by kernel_rfl
  rw [hC] at hlen
  obtain ⟨v0, v1, v2, rfl⟩ := list3p cs hlen
  have ci : Try.prog.cellsOf 3 = 1 := by kernel_rfl
  have cr : Try.prog.cellsOf 29 = 1 := by kernel_rfl
  have hx : ∀ i, i < 3 → ∃ y, xs[i]? = some y := fun i hi => ⟨_, List.getElem?_eq_getElem (by rw [hxl]; exact hi)⟩
  obtain ⟨y0, e0⟩ := hx 0 (by omega)
  obtain ⟨y1, e1⟩ := hx 1 (by omega)
  obtain ⟨y2, e2⟩ := hx 2 (by omega)
  have h0 : DataW.trod enc Try.prog W 0 (fun _ => true) true n 3 (([v0, v1, v2].drop 0).take (Try.prog.cellsOf 3)) = some y0 := (hel 0 _ rfl).trans e0
  have h1 : DataW.trod enc Try.prog W 0 (fun _ => true) true n 29 (([v0, v1, v2].drop 1).take (Try.prog.cellsOf 29)) = some y1 := (hel 1 _ rfl).trans e1
  have h2 : DataW.trod enc Try.prog W 0 (fun _ => true) true n 3 (([v0, v1, v2].drop 2).take (Try.prog.cellsOf 3)) = some y2 := (hel 2 _ rfl).trans e2
  rw [ci] at h0 h2
  rw [cr] at h1
  obtain ⟨n0, k0, _, _⟩ := DataW.trod_int Try.underlying3 h0
  obtain ⟨n2, k2, _, _⟩ := DataW.trod_int Try.underlying3 h2
  have k0' : v0 = .int .i64 n0 := by simpa using k0
  have k2' : v2 = .int .i64 n2 := by simpa using k2
  obtain ⟨ra, rc, l, k1, hl, hr⟩ := pks_of_cells (v := v1) (by simpa using h1)
  subst k0' k1 k2'
  exact ⟨(n0, l, n2), ra, rc, rfl, hl, hr⟩
set_option maxRecDepth 100000 in
theorem loss_of_trod {H : Type} {enc : TypeId × Value → H} {W : World} {v : Value} {d : DataW H} {p : List MemPlace} {r : Reach} {b0 : Nat}
    (hv : Value.okWide Try.prog W r b0 31 v) (h : DataW.Trod enc Try.prog W 0 (fun _ => true) true 31 v d p) : ∃ (b : Ls) (ra : Option Addr) (rc : Nat), v = .agg #[.int .i64 b.1, .slice ra b.2.1.length rc, .int .i64 b.2.2] ∧ b.2.1.length ≤ 9223372036854775807 ∧ Pks W (.slice ra b.2.1.length rc) b.2.1 := by
  obtain ⟨cs, rfl, hsz⟩ := okWide_struct Try.underlying31 hv
  obtain ⟨fuel, hf⟩ := h
  obtain ⟨b, ra, rc, hc, h1, h2⟩ := loss_of_cells (by simpa [Value.cells] using hf)
  refine ⟨b, ra, rc, ?_, h1, h2⟩
  rw [← hc]

end Go.Proofs.Ytccolpaenmebeaa
