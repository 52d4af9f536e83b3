/- A drawn list of ranges: what it is. -/
import Derived.Test.YtcjhbcibhcogjaaSAdd
namespace Go.Proofs.Ytcjhbcibhcogjaa
open Go.RowKit
set_option linter.unusedVariables false
set_option linter.unusedSimpArgs false

def GotRgOne (w : World) (e : Ending) (w' : World) : Prop :=
  ∃ (v : Value) (l : List (Int × Int)), l.length ≤ 17 ∧ e = .returned v ∧ Below w.heap.size w w' ∧ OwnRg w' w.heap.size v l ∧ v ≠ .slice none 0 0
theorem got_one {w w1 w2 : World} {v : Value} {l : List (Int × Int)} (hb : Below w.heap.size w w1) (hl : l.length ≤ 17) (hg : w1.grownBy w2 (some w.heap.size)) (ho : OwnRg w2 w1.heap.size v l) (hn : v ≠ .slice none 0 0) :
    GotRgOne w (.returned v) w2 := ⟨v, l, hl, rfl, below_grown hb hg, ho.lower hb.size, hn⟩

end Go.Proofs.Ytcjhbcibhcogjaa
