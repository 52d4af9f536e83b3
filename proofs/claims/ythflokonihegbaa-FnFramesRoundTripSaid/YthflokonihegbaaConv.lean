/- 'string(b)' of an argument. -/
import Derived.Test.YthflokonihegbaaDrFrs
namespace Go.Proofs.Ythflokonihegbaa
open Go.RowKit
set_option linter.unusedVariables false
set_option linter.unusedSimpArgs false

/-- 'string(b)' of a slice of bytes that came in. -/
theorem conv_arg {w : World} {a : Option Addr} {len cap : Nat} {zs : List Int} (h : IsRow .u8 w a len cap zs) :
    (convert 22 9 (.slice a len cap)).run Try.prog w = .ok (.string (strOfNums (zs.take len))) w := by
  rcases h with ⟨rfl, rfl, rfl, rfl⟩ | ⟨x, rfl, hl, hm, hz, hcell, hwz⟩
  · exact run_convert_bytes_nil (P := Try.prog) w 22 5 Try.underlying22 Try.underlying5 0 0 9 Try.underlying9
  · by_cases h0 : len = 0
    · subst h0
      rw [run_convert_bytes_string w 22 9 5 _ 0 cap Try.underlying22 Try.underlying5 Try.underlying9]
      have hl := run_loadCells_list (P := Try.prog) w x [] (fun j v hj => by simp at hj)
      rw [run_bytesToString w x 0 cap [] hl]
      rfl
    · obtain ⟨ab, off, spot⟩ := x
      have hspot : spot = none := by
        have := World.cell?_spot (hcell 0 (by omega))
        simpa [Addr.add] using this
      subst hspot
      refine run_convert_bytes_arg (P := Try.prog) w 22 5 Try.underlying22 Try.underlying5 ab off len cap (zs.take len) (by simp; omega) ?_ 9 Try.underlying9
      intro i hi
      have e : (⟨ab, off, none⟩ : Addr).add i = ⟨ab, off + i, none⟩ := by unfold Addr.add; split <;> simp_all
      rw [← e, hcell i (by omega)]
      simp [List.getD_eq_getElem?_getD, List.getElem?_take, hi]
theorem conv_arg_any {w : World} {a : Option Addr} {len cap : Nat} {zs : List Int} (h : IsRow .u8 w a len cap zs) :
    ∃ t : ByteArray, t.size = len ∧ ∀ w', Below w.heap.size w w' → (convert 22 9 (.slice a len cap)).run Try.prog w' = .ok (.string t) w' := by
  refine ⟨strOfNums (zs.take len), ?_, fun w' hb => conv_arg (h.below hb)⟩
  rw [size_nums]
  rcases h with ⟨rfl, rfl, rfl, rfl⟩ | ⟨x, rfl, hl, hm, hz, hcell, hwz⟩
  · rfl
  · simp; omega

end Go.Proofs.Ythflokonihegbaa
