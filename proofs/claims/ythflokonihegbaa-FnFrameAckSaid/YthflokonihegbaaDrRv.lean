/- The drawn ranges as an argument of chapter 4's law. -/
import Derived.Test.YthflokonihegbaaDrFrs
namespace Go.Proofs.Ythflokonihegbaa
open Go.RowKit
set_option linter.unusedVariables false
set_option linter.unusedSimpArgs false

def GotRgOne (w : World) (e : Ending) (w' : World) : Prop :=
  ∃ (v : Value) (l : List (Int × Int)), l.length ≤ 17 ∧ e = .returned v ∧ Below w.heap.size w w' ∧ OwnRg w' w.heap.size v l ∧ v ≠ .slice none 0 0
theorem got_one {w w1 w2 : World} {v : Value} {l : List (Int × Int)} (hb : Below w.heap.size w w1) (hl : l.length ≤ 17) (hg : w1.grownBy w2 (some w.heap.size)) (ho : OwnRg w2 w1.heap.size v l) (hn : v ≠ .slice none 0 0) :
    GotRgOne w (.returned v) w2 := ⟨v, l, hl, rfl, below_reader hb hg, ho.lower hb.size, hn⟩

set_option maxRecDepth 100000 in
set_option maxHeartbeats 400000 in
theorem drawValid_any (a : Option Addr) (len cap : Nat) (zs : List Int) (w : World) (h : IsRow .u8 w a len cap zs) :
    Calls Try.prog 35 #[.slice a len cap] w (GotRgOne w) := by
  have H := Lib.hid h
  clear h
  go_enter Try.func35, Try.ntmps35
  go_wp2_with fail
  refine (open_any a len cap zs w H.out).mono ?_
  rintro e w1 ⟨rfl, hb, hR⟩
  have B1 := Lib.hid hb
  clear hb
  go_wp2_with fail
  refine (ranges_any _ 0 _ hR (by omega)).mono ?_
  rintro e w2 ⟨v, l, ⟨_, hl⟩, rfl, hg, hR2, ho, hn⟩
  have HH := Lib.hid (got_one B1.out hl hg ho hn)
  clear hl hg ho hn
  go_wp2_with fail
  go_ret
  exact HH.out

end Go.Proofs.Ythflokonihegbaa
