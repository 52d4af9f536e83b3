/- The drawn arguments of RangesRemove. -/
import Derived.Test.YtcjhbcibhcogjaaSAdd
namespace Go.Proofs.Ytcjhbcibhcogjaa
open Go.RowKit
set_option linter.unusedVariables false
set_option linter.unusedSimpArgs false

set_option maxRecDepth 100000 in
set_option maxHeartbeats 400000 in
theorem drawRem_any (a : Option Addr) (len cap : Nat) (zs : List Int) (w : World) (h : IsRow .u8 w a len cap zs) :
    Calls Try.prog 22 #[.slice a len cap] w (GotRgTwo w) := by
  have H := Lib.hid h
  clear h
  go_enter Try.func22, Try.ntmps22
  go_wp2_with fail
  refine (drawAdd_any a len cap zs w H.out).mono ?_
  rintro e w1 ⟨v, l, x, y, hl, rfl, hx, hy, hb, ho, hn⟩
  have HH := Lib.hid (show _ from (⟨hl, hx, hy, hb, ho, hn⟩ : _ ∧ _ ∧ _ ∧ _ ∧ _ ∧ _))
  clear hl hx hy hb ho hn
  go_wp2_with fail
  go_ret3
  exact ⟨v, l, x, y, HH.out.1, rfl, HH.out.2.1, HH.out.2.2.1, HH.out.2.2.2.1, HH.out.2.2.2.2.1, HH.out.2.2.2.2.2⟩

end Go.Proofs.Ytcjhbcibhcogjaa
