/- A ticket that came in as an argument: a struct of two ints. -/
import Derived.Test.YtlhjhdlpejpooabBase
import Derived.ProofKit
import Derived.OpenShut
import Derived.Deep.Strs
namespace Go.Proofs.Ytlhjhdlpejpooab
open Go.ChangeShapes Go.WideShapes Go.ChangeAt Go.RowKit Go.Deep
set_option linter.unusedVariables false
set_option linter.unusedSimpArgs false

theorem list2 {α : Type} : ∀ (l : List α), l.length = 2 → ∃ a b, l = [a, b]
  | [a, b], _ => ⟨a, b, rfl⟩
  | [], h => by simp at h
  | [_], h => by simp at h
  | _ :: _ :: _ :: _, h => by simp at h

set_option maxRecDepth 100000 in
theorem tic_of_trod {H : Type} {enc : TypeId × Value → H} {W : World} {v : Value} {d : DataW H} {p : List MemPlace} {r : Reach} {b0 : Nat}
    (hv : Value.okWide Try.prog W r b0 36 v) (h : DataW.Trod enc Try.prog W 0 (fun _ => true) true 36 v d p) : ∃ x y : Int, v = .agg #[.int .i64 x, .int .i64 y] := by
  obtain ⟨cs, rfl, hsz⟩ := okWide_struct Try.underlying36 hv
  obtain ⟨fuel, hf⟩ := h
  have hC : Try.prog.cellsOf 36 = 2 := by kernel_rfl
  have ci : Try.prog.cellsOf 3 = 1 := by kernel_rfl
  obtain ⟨y0, y1, n, _, hl, h0, h1⟩ := trod_struct2 Try.underlying36 hf
  rw [hC] at hl
  obtain ⟨v0, v1, hcs⟩ := list2 _ hl
  have hcs' : cs.toList = [v0, v1] := by simpa [Value.cells] using hcs
  rw [hcs] at h0 h1
  have h0' : DataW.trod enc Try.prog W 0 (fun _ => true) true n 3 (([v0, v1].drop 0).take (Try.prog.cellsOf 3)) = some y0 := h0
  have h1' : DataW.trod enc Try.prog W 0 (fun _ => true) true n 3 (([v0, v1].drop 1).take (Try.prog.cellsOf 3)) = some y1 := h1
  rw [ci] at h0' h1'
  obtain ⟨n0, k0, _, _⟩ := DataW.trod_int Try.underlying3 h0'
  obtain ⟨n1, k1, _, _⟩ := DataW.trod_int Try.underlying3 h1'
  have k0' : v0 = .int .i64 n0 := by simpa using k0
  have k1' : v1 = .int .i64 n1 := by simpa using k1
  subst k0' k1'
  refine ⟨n0, n1, ?_⟩
  rw [← hcs']

end Go.Proofs.Ytlhjhdlpejpooab
