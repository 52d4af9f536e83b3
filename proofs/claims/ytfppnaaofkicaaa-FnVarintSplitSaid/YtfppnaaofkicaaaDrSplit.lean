/- The drawn string of the laws on lists. -/
import Derived.Test.YtfppnaaofkicaaaArg
namespace Go.Proofs.Ytfppnaaofkicaaa
open Go.RowKit
set_option linter.unusedVariables false
set_option linter.unusedSimpArgs false

set_option maxHeartbeats 400000 in
theorem drawSplit_any (a : Option Addr) (len cap : Nat) (zs : List Int) (w : World) (h : IsRow .u8 w a len cap zs) :
    Calls Try.prog 28 #[.slice a len cap] w (GotStr w) := by
  have H := Lib.hid h
  clear h
  go_enter Try.func28, Try.ntmps28
  go_wp2_with fail
  refine (open_any a len cap zs w H.out).mono ?_
  rintro e w1 ⟨rfl, hb, hR⟩
  go_wp2_with fail
  refine (bytes_any _ 0 _ hR (by omega)).mono ?_
  rintro e w2 ⟨t, ht, rfl, hg, _⟩
  have hbb := below_grown hb hg
  go_wp2_with fail
  go_ret
  exact ⟨t, ht, rfl, hbb⟩

end Go.Proofs.Ytfppnaaofkicaaa
