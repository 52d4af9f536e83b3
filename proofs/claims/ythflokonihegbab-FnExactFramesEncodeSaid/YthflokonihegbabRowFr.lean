/- A frame that came in, opened to its cells. -/
import Derived.Test.YthflokonihegbabSFr
import Derived.Deep.SlicePairs
import Derived.Deep.Fields
import Derived.ChangeArms
import Derived.ProofKit
namespace Go.Proofs.Ythflokonihegbab
open Go.ChangeShapes Go.WideShapes Go.ChangeAt Go.RowKit Go.Deep
set_option linter.unusedVariables false
set_option linter.unusedSimpArgs false

theorem rngs_of_cells {H : Type} {enc : TypeId × Value → H} {W : World} {v : Value} {fuel : Nat} {y : DataW H × List MemPlace}
    (hf : DataW.trod enc Try.prog W 0 (fun _ => true) true fuel 22 [v] = some y) : ∃ (a : Option Addr) (cap : Nat) (l : List (Int × Int)), v = .slice a l.length cap ∧ l.length ≤ 9223372036854775807 ∧ Rngs W v l := by
  rcases open_slice_pairs Try.underlying22 Try.underlying87 (by kernel_rfl) rfl rfl (by kernel_rfl) (by kernel_rfl) hf with ⟨hcs, _⟩ | ⟨ad, len, cap, m, n, V0, V1, D0, D1, P0, P1, hcs, _, hl, hm, hmm, _, hel⟩
  · have : v = .slice none 0 0 := by simpa using hcs
    subst this
    exact ⟨none, 0, [], rfl, by simp, none, 0, rfl, fun hx => absurd rfl hx⟩
  · have hv : v = .slice (some ad) len cap := by simpa using hcs
    subst hv
    have hm' : m = cap := by rw [hmm]; rfl
    refine ⟨some ad, cap, (List.range len).map fun i => (intOf (V0 i), intOf (V1 i)), by simp, by simp; unfold maxLen at hm; omega, ?_⟩
    refine ⟨some ad, cap, by simp, fun hne => ?_⟩
    have hpos : 0 < len := by
      rcases Nat.eq_zero_or_pos len with h0 | h0
      · subst h0; simp at hne
      · exact h0
    obtain ⟨ab, off, spot⟩ := ad
    have hspot : spot = none := by
      have := World.cell?_spot (hel 0 (by omega)).1
      simpa [Addr.add] using this
    subst hspot
    refine ⟨ab, off, rfl, fun i hi => ?_⟩
    have hi' : i < len := by simpa using hi
    obtain ⟨c0, c1, t0, t1⟩ := hel i (by omega)
    obtain ⟨n0, e0, _, _⟩ := DataW.trod_int Try.underlying3 t0
    obtain ⟨n1, e1, _, _⟩ := DataW.trod_int Try.underlying3 t1
    have e0' : V0 i = .int .i64 n0 := by simpa using e0
    have e1' : V1 i = .int .i64 n1 := by simpa using e1
    have a0 : (⟨ab, off, none⟩ : Addr).add (i * 2) = ⟨ab, off + i * 2, none⟩ := by simp [Addr.add]
    have a1 : (⟨ab, off, none⟩ : Addr).add (i * 2 + 1) = ⟨ab, off + i * 2 + 1, none⟩ := by simp [Addr.add]; omega
    have hg : ((List.range len).map fun i => (intOf (V0 i), intOf (V1 i))).getD i (0, 0) = (n0, n1) := by
      rw [List.getD_eq_getElem?_getD, List.getElem?_map, List.getElem?_range hi']
      simp [e0', e1', intOf]
    rw [hg, ← a0, ← a1, c0, c1, e0', e1']
    exact ⟨rfl, rfl⟩

theorem list6 {α : Type} : ∀ (l : List α), l.length = 6 → ∃ a b c d e f, l = [a, b, c, d, e, f]
  | [a, b, c, d, e, f], _ => ⟨a, b, c, d, e, f, rfl⟩
  | [], h => by simp at h
  | [_], h => by simp at h
  | [_, _], h => by simp at h
  | [_, _, _], h => by simp at h
  | [_, _, _, _], h => by simp at h
  | [_, _, _, _, _], h => by simp at h
  | _ :: _ :: _ :: _ :: _ :: _ :: _ :: _, h => by simp at h

set_option maxRecDepth 100000 in
/-- Six cells that read as a frame. -/
theorem fr_of_cells {H : Type} {enc : TypeId × Value → H} {W : World} {cs : List Value} {fuel : Nat} {y : DataW H × List MemPlace}
    (hf : DataW.trod enc Try.prog W 0 (fun _ => true) true fuel 24 cs = some y) : ∃ (f : Fr) (ra : Option Addr) (rc : Nat), cs = [.int .i64 f.k, .int .i64 f.a, .int .i64 f.b, .int .i64 f.c, .string f.d, .slice ra f.rs.length rc] ∧ f.rs.length ≤ 9223372036854775807 ∧ f.d.size ≤ maxLen ∧ Rngs W (.slice ra f.rs.length rc) f.rs := by
  obtain ⟨xs, n, _, _, hlen, hxl, hel⟩ := DataW.trod_struct Try.underlying24 hf
  have hC : Try.prog.cellsOf 24 = 6 := by kernel_rfl
  rw [hC] at hlen
  obtain ⟨v0, v1, v2, v3, v4, v5, rfl⟩ := list6 cs hlen
  have ci : Try.prog.cellsOf 3 = 1 := by kernel_rfl
  have ct : Try.prog.cellsOf 9 = 1 := by kernel_rfl
  have cr : Try.prog.cellsOf 22 = 1 := by kernel_rfl
  have hx : ∀ i, i < 6 → ∃ y, xs[i]? = some y := fun i hi => ⟨_, List.getElem?_eq_getElem (by rw [hxl]; exact hi)⟩
  obtain ⟨y0, e0⟩ := hx 0 (by omega)
  obtain ⟨y1, e1⟩ := hx 1 (by omega)
  obtain ⟨y2, e2⟩ := hx 2 (by omega)
  obtain ⟨y3, e3⟩ := hx 3 (by omega)
  obtain ⟨y4, e4⟩ := hx 4 (by omega)
  obtain ⟨y5, e5⟩ := hx 5 (by omega)
  have h0 : DataW.trod enc Try.prog W 0 (fun _ => true) true n 3 (([v0, v1, v2, v3, v4, v5].drop 0).take (Try.prog.cellsOf 3)) = some y0 := (hel 0 _ rfl).trans e0
  have h1 : DataW.trod enc Try.prog W 0 (fun _ => true) true n 3 (([v0, v1, v2, v3, v4, v5].drop 1).take (Try.prog.cellsOf 3)) = some y1 := (hel 1 _ rfl).trans e1
  have h2 : DataW.trod enc Try.prog W 0 (fun _ => true) true n 3 (([v0, v1, v2, v3, v4, v5].drop 2).take (Try.prog.cellsOf 3)) = some y2 := (hel 2 _ rfl).trans e2
  have h3 : DataW.trod enc Try.prog W 0 (fun _ => true) true n 3 (([v0, v1, v2, v3, v4, v5].drop 3).take (Try.prog.cellsOf 3)) = some y3 := (hel 3 _ rfl).trans e3
  have h4 : DataW.trod enc Try.prog W 0 (fun _ => true) true n 9 (([v0, v1, v2, v3, v4, v5].drop 4).take (Try.prog.cellsOf 9)) = some y4 := (hel 4 _ rfl).trans e4
  have h5 : DataW.trod enc Try.prog W 0 (fun _ => true) true n 22 (([v0, v1, v2, v3, v4, v5].drop 5).take (Try.prog.cellsOf 22)) = some y5 := (hel 5 _ rfl).trans e5
  rw [ci] at h0 h1 h2 h3
  rw [ct] at h4
  rw [cr] at h5
  obtain ⟨n0, k0, _, _⟩ := DataW.trod_int Try.underlying3 h0
  obtain ⟨n1, k1, _, _⟩ := DataW.trod_int Try.underlying3 h1
  obtain ⟨n2, k2, _, _⟩ := DataW.trod_int Try.underlying3 h2
  obtain ⟨n3, k3, _, _⟩ := DataW.trod_int Try.underlying3 h3
  obtain ⟨d, k4, _, hd⟩ := DataW.trod_string Try.underlying9 h4
  have k0' : v0 = .int .i64 n0 := by simpa using k0
  have k1' : v1 = .int .i64 n1 := by simpa using k1
  have k2' : v2 = .int .i64 n2 := by simpa using k2
  have k3' : v3 = .int .i64 n3 := by simpa using k3
  have k4' : v4 = .string d := by simpa using k4
  obtain ⟨ra, rc, l, k5, hl, hr⟩ := rngs_of_cells (v := v5) (by simpa using h5)
  subst k0' k1' k2' k3' k4' k5
  exact ⟨⟨n0, n1, n2, n3, d, l⟩, ra, rc, rfl, hl, hd, hr⟩
set_option maxRecDepth 100000 in
/-- A frame that came in. -/
theorem fr_of_trod {H : Type} {enc : TypeId × Value → H} {W : World} {v : Value} {d : DataW H} {p : List MemPlace} {r : Reach} {b0 : Nat}
    (hv : Value.okWide Try.prog W r b0 24 v) (h : DataW.Trod enc Try.prog W 0 (fun _ => true) true 24 v d p) : ∃ (f : Fr) (ra : Option Addr) (rc : Nat), v = frV f (.slice ra f.rs.length rc) ∧ f.rs.length ≤ 9223372036854775807 ∧ f.d.size ≤ maxLen ∧ Rngs W (.slice ra f.rs.length rc) f.rs := by
  obtain ⟨cs, rfl, hsz⟩ := okWide_struct Try.underlying24 hv
  obtain ⟨fuel, hf⟩ := h
  obtain ⟨f, ra, rc, hc, hl, hd, hr⟩ := fr_of_cells hf
  refine ⟨f, ra, rc, ?_, hl, hd, hr⟩
  have : cs.toList = [.int .i64 f.k, .int .i64 f.a, .int .i64 f.b, .int .i64 f.c, .string f.d, .slice ra f.rs.length rc] := by simpa [Value.cells] using hc
  unfold frV
  rw [← this]
end Go.Proofs.Ythflokonihegbab
