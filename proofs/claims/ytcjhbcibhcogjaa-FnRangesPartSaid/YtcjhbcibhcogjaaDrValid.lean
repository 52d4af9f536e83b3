/- The drawn argument of RangesValid. -/
import Derived.Test.YtcjhbcibhcogjaaDrOne
namespace Go.Proofs.Ytcjhbcibhcogjaa
open Go.RowKit
set_option linter.unusedVariables false
set_option linter.unusedSimpArgs false

set_option maxRecDepth 100000 in
set_option maxHeartbeats 400000 in
theorem drawValid_any (a : Option Addr) (len cap : Nat) (zs : List Int) (w : World) (h : IsRow .u8 w a len cap zs) :
    Calls Try.prog 35 #[.slice a len cap] w (GotRgOne w) := by
  have H := Lib.hid h
  clear h
  go_enter Try.func35, Try.ntmps35
  go_wp2_with fail
  refine (open_any a len cap zs w H.out).mono ?_
  rintro e w1 ⟨rfl, hb, hR⟩
  have B1 := Lib.hid hb
  clear hb
  go_wp2_with fail
  refine (ranges_any _ 0 _ hR (by omega)).mono ?_
  rintro e w2 ⟨v, l, ⟨_, hl⟩, rfl, hg, hR2, ho, hn⟩
  have HH := Lib.hid (got_one B1.out hl hg ho hn)
  clear hl hg ho hn
  go_wp2_with fail
  go_ret
  exact HH.out

end Go.Proofs.Ytcjhbcibhcogjaa
