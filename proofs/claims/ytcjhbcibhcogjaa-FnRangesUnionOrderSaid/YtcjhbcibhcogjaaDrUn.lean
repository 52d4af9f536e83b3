/- The drawn arguments of RangesUnion. -/
import Derived.Test.YtcjhbcibhcogjaaSAdd
namespace Go.Proofs.Ytcjhbcibhcogjaa
open Go.RowKit
set_option linter.unusedVariables false
set_option linter.unusedSimpArgs false

def GotRgPair (w : World) (e : Ending) (w' : World) : Prop :=
  ∃ (v u : Value) (l m : List (Int × Int)), l.length ≤ 17 ∧ m.length ≤ 17 ∧ e = .returned (.tuple #[v, u]) ∧ Below w.heap.size w w' ∧ OwnRg w' w.heap.size v l ∧ OwnRg w' w.heap.size u m

set_option maxRecDepth 100000 in
set_option maxHeartbeats 400000 in
theorem drawUn_any (a : Option Addr) (len cap : Nat) (zs : List Int) (w : World) (h : IsRow .u8 w a len cap zs) :
    Calls Try.prog 25 #[.slice a len cap] w (GotRgPair w) := by
  have H := Lib.hid h
  clear h
  go_enter Try.func25, Try.ntmps25
  go_wp2_with fail
  refine (open_any a len cap zs w H.out).mono ?_
  rintro e w1 ⟨rfl, hb, hR⟩
  have B1 := Lib.hid hb
  have hlt := hR.1
  clear hb
  go_wp2_with fail
  refine (ranges_any _ 0 _ hR (by omega)).mono ?_
  rintro e w2 ⟨v, l, ⟨_, hl⟩, rfl, hg, hR2, ho, hn⟩
  have B2 := Lib.hid (below_grown B1.out hg)
  have O2 := Lib.hid ho
  clear hg ho hn
  go_wp2_with fail
  refine (ranges_any _ _ _ hR2 (by omega)).mono ?_
  rintro e w3 ⟨u, m, ⟨_, hm⟩, rfl, hg3, hR3, ho3, hn3⟩
  have B3 := Lib.hid (B2.out.grown hg3 B2.out.size (fun k e => by injection e with e; omega))
  have O3 := Lib.hid ((O2.out.picked hg3 hlt).lower B1.out.size)
  have P3 := Lib.hid (ho3.lower B2.out.size)
  clear hg3 ho3 hn3
  go_wp2_with fail
  go_ret2
  exact ⟨v, u, l, m, hl, hm, rfl, B3.out, O3.out, P3.out⟩

end Go.Proofs.Ytcjhbcibhcogjaa
