/- A token that came in as an argument: a struct of three ints. -/
import Derived.Test.YtbmlckhjjfipbaaDoorBase
import Derived.ProofKit
import Derived.OpenShut
import Derived.Deep.Strs
namespace Go.Proofs.YtbmlckhjjfipbaaDoor
open Go.ChangeShapes Go.WideShapes Go.ChangeAt Go.RowKit Go.Deep
set_option linter.unusedVariables false
set_option linter.unusedSimpArgs false

theorem list3 {α : Type} : ∀ (l : List α), l.length = 3 → ∃ a b c, l = [a, b, c]
  | [a, b, c], _ => ⟨a, b, c, rfl⟩
  | [], h => by simp at h
  | [_], h => by simp at h
  | [_, _], h => by simp at h
  | _ :: _ :: _ :: _ :: _, h => by simp at h

set_option maxRecDepth 100000 in
theorem tk_of_trod {H : Type} {enc : TypeId × Value → H} {W : World} {v : Value} {d : DataW H} {p : List MemPlace} {r : Reach} {b0 : Nat}
    (hv : Value.okWide Tryd.prog W r b0 34 v) (h : DataW.Trod enc Tryd.prog W 0 (fun _ => true) true 34 v d p) : ∃ x y z : Int, v = .agg #[.int .i64 x, .int .i64 y, .int .i64 z] := by
  obtain ⟨cs, rfl, hsz⟩ := okWide_struct Tryd.underlying34 hv
  obtain ⟨fuel, hf⟩ := h
  have hC : Tryd.prog.cellsOf 34 = 3 := by kernel_rfl
  have ci : Tryd.prog.cellsOf 3 = 1 := by kernel_rfl
  obtain ⟨y0, y1, y2, n, _, hl, h0, h1, h2⟩ := trod_struct3 Tryd.underlying34 hf
  rw [hC] at hl
  obtain ⟨v0, v1, v2, hcs⟩ := list3 _ hl
  have hcs' : cs.toList = [v0, v1, v2] := by simpa [Value.cells] using hcs
  rw [hcs] at h0 h1 h2
  have h0' : DataW.trod enc Tryd.prog W 0 (fun _ => true) true n 3 (([v0, v1, v2].drop 0).take (Tryd.prog.cellsOf 3)) = some y0 := h0
  have h1' : DataW.trod enc Tryd.prog W 0 (fun _ => true) true n 3 (([v0, v1, v2].drop 1).take (Tryd.prog.cellsOf 3)) = some y1 := h1
  have h2' : DataW.trod enc Tryd.prog W 0 (fun _ => true) true n 3 (([v0, v1, v2].drop 2).take (Tryd.prog.cellsOf 3)) = some y2 := h2
  rw [ci] at h0' h1' h2'
  obtain ⟨n0, k0, _, _⟩ := DataW.trod_int Tryd.underlying3 h0'
  obtain ⟨n1, k1, _, _⟩ := DataW.trod_int Tryd.underlying3 h1'
  obtain ⟨n2, k2, _, _⟩ := DataW.trod_int Tryd.underlying3 h2'
  have k0' : v0 = .int .i64 n0 := by simpa using k0
  have k1' : v1 = .int .i64 n1 := by simpa using k1
  have k2' : v2 = .int .i64 n2 := by simpa using k2
  subst k0' k1' k2'
  refine ⟨n0, n1, n2, ?_⟩
  rw [← hcs']

end Go.Proofs.YtbmlckhjjfipbaaDoor
