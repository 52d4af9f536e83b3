/- Registers that came in as arguments: an int and a slice of tickets. -/
import Derived.Test.YtlhjhdlpejpooabRowTs
import Derived.Test.YtlhjhdlpejpooabRpMath
import Derived.Deep.Strs
import Derived.ProofKit
import Derived.OpenShut
namespace Go.Proofs.Ytlhjhdlpejpooab
open Go.ChangeShapes Go.WideShapes Go.ChangeAt Go.RowKit Go.Deep
set_option linter.unusedVariables false
set_option linter.unusedSimpArgs false

theorem addr_add (b o j : Nat) : (⟨b, o, none⟩ : Addr).add j = ⟨b, o + j, none⟩ := by
  unfold Addr.add; split
  · rename_i h0; rw [h0]; rfl
  · rfl
set_option maxRecDepth 100000 in
/-- A cell that reads as a slice of tickets. -/
theorem tics_of_cells {H : Type} {enc : TypeId × Value → H} {W : World} {v : Value} {fuel : Nat} {y : DataW H × List MemPlace}
    (hf : DataW.trod enc Try.prog W 0 (fun _ => true) true fuel 22 [v] = some y) : ∃ (a : Option Addr) (cap : Nat) (xs : List Tic), v = .slice a xs.length cap ∧ xs.length ≤ 9223372036854775807 ∧ Tics W v xs := by
  have key : ∃ a n c, v = .slice a n c := by
    rcases open_slice Try.underlying22 hf with ⟨hcs, _⟩ | ⟨ad, len, cap, m, n, D, Pl, hcs, _⟩
    · exact ⟨none, 0, 0, by simpa using hcs⟩
    · exact ⟨some ad, len, cap, by simpa using hcs⟩
  obtain ⟨a, n, c, rfl⟩ := key
  obtain ⟨l, ⟨rfl, h2⟩, h3⟩ := tics_of_trod (d := y.1) (p := y.2) ⟨fuel, by simpa [Value.cells] using hf⟩
  exact ⟨a, c, l, rfl, h2, h3⟩
theorem list2r {α : Type} : ∀ (l : List α), l.length = 2 → ∃ a b, l = [a, b]
  | [a, b], _ => ⟨a, b, rfl⟩
  | [], h => by simp at h
  | [_], h => by simp at h
  | _ :: _ :: _ :: _, h => by simp at h
set_option maxRecDepth 100000 in
/-- Two cells that read as a register. -/
theorem reg_of_cells {H : Type} {enc : TypeId × Value → H} {W : World} {cs : List Value} {fuel : Nat} {y : DataW H × List MemPlace}
    (hf : DataW.trod enc Try.prog W 0 (fun _ => true) true fuel 24 cs = some y) : ∃ (b : Reg) (ra : Option Addr) (rc : Nat), cs = [.int .i64 b.1, .slice ra b.2.length rc] ∧ b.2.length ≤ 9223372036854775807 ∧ Tics W (.slice ra b.2.length rc) b.2 := by
  obtain ⟨xs, n, _, _, hlen, hxl, hel⟩ := DataW.trod_struct Try.underlying24 hf
  have hC : Try.prog.cellsOf 24 = 2 := by kernel_rfl
  rw [hC] at hlen
  obtain ⟨v0, v1, rfl⟩ := list2r cs hlen
  have ci : Try.prog.cellsOf 3 = 1 := by kernel_rfl
  have cr : Try.prog.cellsOf 22 = 1 := by kernel_rfl
  have hx : ∀ i, i < 2 → ∃ y, xs[i]? = some y := fun i hi => ⟨_, List.getElem?_eq_getElem (by rw [hxl]; exact hi)⟩
  obtain ⟨y0, e0⟩ := hx 0 (by omega)
  obtain ⟨y1, e1⟩ := hx 1 (by omega)
  have h0 : DataW.trod enc Try.prog W 0 (fun _ => true) true n 3 (([v0, v1].drop 0).take (Try.prog.cellsOf 3)) = some y0 := (hel 0 _ rfl).trans e0
  have h1 : DataW.trod enc Try.prog W 0 (fun _ => true) true n 22 (([v0, v1].drop 1).take (Try.prog.cellsOf 22)) = some y1 := (hel 1 _ rfl).trans e1
  rw [ci] at h0
  rw [cr] at h1
  obtain ⟨n0, k0, _, wf⟩ := DataW.trod_int Try.underlying3 h0
  have k0' : v0 = .int .i64 n0 := by simpa using k0
  obtain ⟨ra, rc, l, k1, hl, hr⟩ := tics_of_cells (v := v1) (by simpa using h1)
  subst k0' k1
  exact ⟨(n0, l), ra, rc, rfl, hl, hr⟩
set_option maxRecDepth 100000 in
theorem reg_of_trod {H : Type} {enc : TypeId × Value → H} {W : World} {v : Value} {d : DataW H} {p : List MemPlace} {r : Reach} {b0 : Nat}
    (hv : Value.okWide Try.prog W r b0 24 v) (h : DataW.Trod enc Try.prog W 0 (fun _ => true) true 24 v d p) : ∃ (b : Reg) (ra : Option Addr) (rc : Nat), v = .agg #[.int .i64 b.1, .slice ra b.2.length rc] ∧ b.2.length ≤ 9223372036854775807 ∧ Tics W (.slice ra b.2.length rc) b.2 := by
  obtain ⟨cs, rfl, hsz⟩ := okWide_struct Try.underlying24 hv
  obtain ⟨fuel, hf⟩ := h
  obtain ⟨b, ra, rc, hc, h1, h2⟩ := reg_of_cells (by simpa [Value.cells] using hf)
  refine ⟨b, ra, rc, ?_, h1, h2⟩
  rw [← hc]

end Go.Proofs.Ytlhjhdlpejpooab
