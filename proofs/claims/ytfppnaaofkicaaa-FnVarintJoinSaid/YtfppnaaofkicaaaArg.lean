/- What the laws' walks share: drawn numbers and strings, 'string(b)' of an argument. -/
import Derived.Test.YtfppnaaofkicaaaNumDraw
import Derived.Test.YtfppnaaofkicaaaStrDraw
import Derived.Test.YtfppnaaofkicaaaMin
namespace Go.Proofs.Ytfppnaaofkicaaa
open Go.RowKit
set_option linter.unusedVariables false
set_option linter.unusedSimpArgs false

def GotInt (P : Int → Prop) (w : World) (e : Ending) (w' : World) : Prop := ∃ n : Int, P n ∧ e = .returned (.int .i64 n) ∧ Below w.heap.size w w'
theorem IsRow.below {k : IntKind} {w w' : World} {a : Option Addr} {len cap : Nat} {zs : List Int} (h : IsRow k w a len cap zs) (hb : Below w.heap.size w w') : IsRow k w' a len cap zs :=
  h.keep fun x _ _ i v hv => (hb.cell (World.block_lt_of_cell? w _ hv)).trans hv
theorem below_grown {w w1 w2 : World} (h : Below w.heap.size w w1) (hg : w1.grownBy w2 (some w.heap.size)) : Below w.heap.size w w2 :=
  h.grown hg h.size (fun k e => by injection e with e; omega)

/-- 'string(b)' of a slice of bytes that came in. -/
theorem conv_arg {w : World} {a : Option Addr} {len cap : Nat} {zs : List Int} (h : IsRow .u8 w a len cap zs) :
    (convert 22 9 (.slice a len cap)).run Try.prog w = .ok (.string (strOfNums (zs.take len))) w := by
  rcases h with ⟨rfl, rfl, rfl, rfl⟩ | ⟨x, rfl, hl, hm, hz, hcell, hwz⟩
  · exact run_convert_bytes_nil (P := Try.prog) w 22 5 Try.underlying22 Try.underlying5 0 0 9 Try.underlying9
  · by_cases h0 : len = 0
    · subst h0
      rw [run_convert_bytes_string w 22 9 5 _ 0 cap Try.underlying22 Try.underlying5 Try.underlying9]
      have hl := run_loadCells_list (P := Try.prog) w x [] (fun j v hj => by simp at hj)
      rw [run_bytesToString w x 0 cap [] hl]
      rfl
    · obtain ⟨ab, off, spot⟩ := x
      have hspot : spot = none := by
        have := World.cell?_spot (hcell 0 (by omega))
        simpa [Addr.add] using this
      subst hspot
      refine run_convert_bytes_arg (P := Try.prog) w 22 5 Try.underlying22 Try.underlying5 ab off len cap (zs.take len) (by simp; omega) ?_ 9 Try.underlying9
      intro i hi
      have e : (⟨ab, off, none⟩ : Addr).add i = ⟨ab, off + i, none⟩ := by unfold Addr.add; split <;> simp_all
      rw [← e, hcell i (by omega)]
      simp [List.getD_eq_getElem?_getD, List.getElem?_take, hi]
theorem conv_arg_any {w : World} {a : Option Addr} {len cap : Nat} {zs : List Int} (h : IsRow .u8 w a len cap zs) :
    ∃ t : ByteArray, t.size = len ∧ ∀ w', Below w.heap.size w w' → (convert 22 9 (.slice a len cap)).run Try.prog w' = .ok (.string t) w' := by
  refine ⟨strOfNums (zs.take len), ?_, fun w' hb => conv_arg (h.below hb)⟩
  rw [size_nums]
  rcases h with ⟨rfl, rfl, rfl, rfl⟩ | ⟨x, rfl, hl, hm, hz, hcell, hwz⟩
  · rfl
  · simp; omega

theorem isEmpty_enc {n : Int} (h : vlen n ≠ 0) : (encS n).toList.isEmpty = false := by
  have := encS_size n; have := vlen_cases n
  exact isEmpty_of_pos (by omega)
theorem isEmpty_enc0 {n : Int} (h : vlen n = 0) : (encS n).toList.isEmpty = true := by
  have := encS_size n
  exact isEmpty_of_zero (by omega)

def GotStr (w : World) (e : Ending) (w' : World) : Prop := ∃ t : ByteArray, t.size ≤ 12 ∧ e = .returned (.string t) ∧ Below w.heap.size w w'

end Go.Proofs.Ytfppnaaofkicaaa
