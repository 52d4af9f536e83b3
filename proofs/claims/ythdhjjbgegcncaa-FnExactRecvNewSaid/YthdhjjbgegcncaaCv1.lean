/- A byte as a string. -/
import Derived.Test.YthdhjjbgegcncaaVMath
import Derived.Test.YthdhjjbgegcncaaLit
import Derived.Test.YthdhjjbgegcncaaRcMath2
namespace Go.Proofs.Ythdhjjbgegcncaa
open Go.RowKit
set_option linter.unusedVariables false
set_option linter.unusedSimpArgs false

theorem conv_list (w : World) (xs : List Int) (g n c : Nat) (hg : g = w.heap.size) (hn : xs.length = n) :
    (convert 53 9 (.slice (some ⟨g, 0, none⟩) n c)).run Try.prog (w.alloc (.cells (xs.map (Value.int .u8)).toArray 5)) = .ok (.string (strOfNums xs)) (w.alloc (.cells (xs.map (Value.int .u8)).toArray 5)) := by
  subst hg
  refine run_convert_bytes_arg (P := Try.prog) _ 53 5 Try.underlying53 Try.underlying5 w.heap.size 0 n c xs hn ?_ 9 Try.underlying9
  intro i hi
  rw [Nat.zero_add, World.cell?_alloc_mark]
  simp [List.getElem?_map, List.getD_eq_getElem?_getD, List.getElem?_eq_getElem (hn ▸ hi : i < xs.length)]
theorem conv1 (w : World) (g : Nat) (a : Int) (hg : g = w.heap.size) : (convert 53 9 (.slice (some ⟨g, 0, none⟩) 1 1)).run Try.prog (w.alloc (.cells #[.int .u8 a] 5)) = .ok (.string (strOfNums [a])) (w.alloc (.cells #[.int .u8 a] 5)) := conv_list w [a] g 1 1 hg rfl
theorem dat_num {b : Int} (h0 : 0 ≤ b) (h1 : b ≤ 255) : dat (strOfNums [b]) 0 = b := by
  unfold dat strOfNums
  simp only [List.map_cons, List.map_nil, List.getElem?_toArray, List.getElem?_cons_zero, Option.getD_some]
  rw [UInt8.toNat_ofNat']
  omega
end Go.Proofs.Ythdhjjbgegcncaa
