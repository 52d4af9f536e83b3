/- A stream that came in: an int, a slice of pieces, two ints. -/
import Derived.Test.YthdhjjbgegcncaaPcn
import Derived.Deep.SlicePairs
import Derived.Deep.Fields
import Derived.ChangeArms
import Derived.ProofKit
namespace Go.Proofs.Ythdhjjbgegcncaa
open Go.ChangeShapes Go.WideShapes Go.ChangeAt Go.RowKit Go.Deep
set_option linter.unusedVariables false
set_option linter.unusedSimpArgs false

def strOf : Value → ByteArray
  | .string d => d
  | _ => ⟨#[]⟩
/-- What a piece that came in keeps to. -/
def PIn (p : Pc) : Prop := (-9223372036854775808 ≤ p.1 ∧ p.1 ≤ 9223372036854775807) ∧ p.2.size ≤ maxLen
theorem pcs_of_cells {H : Type} {enc : TypeId × Value → H} {W : World} {v : Value} {fuel : Nat} {y : DataW H × List MemPlace}
    (hf : DataW.trod enc Try.prog W 0 (fun _ => true) true fuel 30 [v] = some y) : ∃ (a : Option Addr) (cap : Nat) (l : List Pc), v = .slice a l.length cap ∧ l.length ≤ 9223372036854775807 ∧ Pcn W v l ∧ ∀ p ∈ l, PIn p := by
  rcases open_slice_pairs Try.underlying30 Try.underlying70 (by kernel_rfl) rfl rfl (by kernel_rfl) (by kernel_rfl) hf with ⟨hcs, _⟩ | ⟨ad, len, cap, m, n, V0, V1, D0, D1, P0, P1, hcs, _, hl, hm, hmm, _, hel⟩
  · have : v = .slice none 0 0 := by simpa using hcs
    subst this
    exact ⟨none, 0, [], rfl, by simp, Pcn.nil W, fun p hp => by simp at hp⟩
  · have hv : v = .slice (some ad) len cap := by simpa using hcs
    subst hv
    have hm' : m = cap := by rw [hmm]; rfl
    have each : ∀ i, i < len → ∃ (x : Int) (d : ByteArray), V0 i = .int .i64 x ∧ V1 i = .string d ∧ PIn (x, d) := fun i hi => by
      obtain ⟨c0, c1, t0, t1⟩ := hel i (by omega)
      obtain ⟨n0, e0, _, wf⟩ := DataW.trod_int Try.underlying3 t0
      obtain ⟨d, e1, _, hd⟩ := DataW.trod_string Try.underlying9 t1
      have k := bounds_i64 wf
      exact ⟨n0, d, by simpa using e0, by simpa using e1, ⟨by omega, by omega⟩, hd⟩
    refine ⟨some ad, cap, (List.range len).map fun i => (intOf (V0 i), strOf (V1 i)), by simp, by simp; unfold maxLen at hm; omega, ?_, fun p hp => ?_⟩
    · refine ⟨some ad, cap, by simp, fun hne => ?_⟩
      have hpos : 0 < len := by
        rcases Nat.eq_zero_or_pos len with h0 | h0
        · subst h0; simp at hne
        · exact h0
      obtain ⟨ab, off, spot⟩ := ad
      have hspot : spot = none := by
        have := World.cell?_spot (hel 0 (by omega)).1
        simpa [Addr.add] using this
      subst hspot
      refine ⟨ab, off, rfl, fun i hi => ?_⟩
      have hi' : i < len := by simpa using hi
      obtain ⟨c0, c1, t0, t1⟩ := hel i (by omega)
      obtain ⟨x, d, e0, e1, _⟩ := each i hi'
      have a0 : (⟨ab, off, none⟩ : Addr).add (i * 2) = ⟨ab, off + i * 2, none⟩ := by simp [Addr.add]
      have a1 : (⟨ab, off, none⟩ : Addr).add (i * 2 + 1) = ⟨ab, off + i * 2 + 1, none⟩ := by simp [Addr.add]; omega
      have hg : ((List.range len).map fun i => (intOf (V0 i), strOf (V1 i))).getD i pc0 = (x, d) := by
        rw [List.getD_eq_getElem?_getD, List.getElem?_map, List.getElem?_range hi']
        simp [e0, e1, intOf, strOf]
      rw [hg, ← a0, ← a1, c0, c1, e0, e1]
      exact ⟨rfl, rfl⟩
    · obtain ⟨i, hi, rfl⟩ := List.mem_map.1 hp
      obtain ⟨x, d, e0, e1, k⟩ := each i (List.mem_range.1 hi)
      rw [e0, e1]
      exact k
theorem list4c {α : Type} : ∀ (l : List α), l.length = 4 → ∃ a b c d, l = [a, b, c, d]
  | [a, b, c, d], _ => ⟨a, b, c, d, rfl⟩
  | [], h => by simp at h
  | [_], h => by simp at h
  | [_, _], h => by simp at h
  | [_, _, _], h => by simp at h
  | _ :: _ :: _ :: _ :: _ :: _, h => by simp at h
set_option maxRecDepth 100000 in
theorem recv_of_cells {H : Type} {enc : TypeId × Value → H} {W : World} {cs : List Value} {fuel : Nat} {y : DataW H × List MemPlace}
    (hf : DataW.trod enc Try.prog W 0 (fun _ => true) true fuel 32 cs = some y) : ∃ (rd fi li : Int) (ra : Option Addr) (rc : Nat) (l : List Pc), cs = [.int .i64 rd, .slice ra l.length rc, .int .i64 fi, .int .i64 li] ∧ l.length ≤ 9223372036854775807 ∧ Pcn W (.slice ra l.length rc) l ∧ ∀ p ∈ l, PIn p := by
  obtain ⟨xs, n, _, _, hlen, hxl, hel⟩ := DataW.trod_struct Try.underlying32 hf
  have hC : Try.prog.cellsOf 32 = 4 := by kernel_rfl
  rw [hC] at hlen
  obtain ⟨v0, v1, v2, v3, rfl⟩ := list4c cs hlen
  have ci : Try.prog.cellsOf 3 = 1 := by kernel_rfl
  have cr : Try.prog.cellsOf 30 = 1 := by kernel_rfl
  have hx : ∀ i, i < 4 → ∃ y, xs[i]? = some y := fun i hi => ⟨_, List.getElem?_eq_getElem (by rw [hxl]; exact hi)⟩
  obtain ⟨y0, e0⟩ := hx 0 (by omega)
  obtain ⟨y1, e1⟩ := hx 1 (by omega)
  obtain ⟨y2, e2⟩ := hx 2 (by omega)
  obtain ⟨y3, e3⟩ := hx 3 (by omega)
  have h0 : DataW.trod enc Try.prog W 0 (fun _ => true) true n 3 (([v0, v1, v2, v3].drop 0).take (Try.prog.cellsOf 3)) = some y0 := (hel 0 _ rfl).trans e0
  have h1 : DataW.trod enc Try.prog W 0 (fun _ => true) true n 30 (([v0, v1, v2, v3].drop 1).take (Try.prog.cellsOf 30)) = some y1 := (hel 1 _ rfl).trans e1
  have h2 : DataW.trod enc Try.prog W 0 (fun _ => true) true n 3 (([v0, v1, v2, v3].drop 2).take (Try.prog.cellsOf 3)) = some y2 := (hel 2 _ rfl).trans e2
  have h3 : DataW.trod enc Try.prog W 0 (fun _ => true) true n 3 (([v0, v1, v2, v3].drop 3).take (Try.prog.cellsOf 3)) = some y3 := (hel 3 _ rfl).trans e3
  rw [ci] at h0 h2 h3
  rw [cr] at h1
  obtain ⟨n0, k0, _, _⟩ := DataW.trod_int Try.underlying3 h0
  obtain ⟨n2, k2, _, _⟩ := DataW.trod_int Try.underlying3 h2
  obtain ⟨n3, k3, _, _⟩ := DataW.trod_int Try.underlying3 h3
  have k0' : v0 = .int .i64 n0 := by simpa using k0
  have k2' : v2 = .int .i64 n2 := by simpa using k2
  have k3' : v3 = .int .i64 n3 := by simpa using k3
  obtain ⟨ra, rc, l, k1, hl, hr, hp⟩ := pcs_of_cells (v := v1) (by simpa using h1)
  subst k0' k1 k2' k3'
  exact ⟨n0, n2, n3, ra, rc, l, rfl, hl, hr, hp⟩
set_option maxRecDepth 100000 in
theorem recv_of_trod {H : Type} {enc : TypeId × Value → H} {W : World} {v : Value} {d : DataW H} {p : List MemPlace} {r : Reach} {b0 : Nat}
    (hv : Value.okWide Try.prog W r b0 32 v) (h : DataW.Trod enc Try.prog W 0 (fun _ => true) true 32 v d p) : ∃ (rd fi li : Int) (ra : Option Addr) (rc : Nat) (l : List Pc), v = .agg #[.int .i64 rd, .slice ra l.length rc, .int .i64 fi, .int .i64 li] ∧ l.length ≤ 9223372036854775807 ∧ Pcn W (.slice ra l.length rc) l ∧ ∀ p ∈ l, PIn p := by
  obtain ⟨cs, rfl, hsz⟩ := okWide_struct Try.underlying32 hv
  obtain ⟨fuel, hf⟩ := h
  obtain ⟨rd, fi, li, ra, rc, l, hc, h1, h2, h3⟩ := recv_of_cells (by simpa [Value.cells] using hf)
  refine ⟨rd, fi, li, ra, rc, l, ?_, h1, h2, h3⟩
  rw [← hc]
end Go.Proofs.Ythdhjjbgegcncaa
