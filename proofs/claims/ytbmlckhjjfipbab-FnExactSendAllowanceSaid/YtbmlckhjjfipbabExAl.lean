/- The exact law of SendAllowance: the walk. -/
import Derived.Test.YtbmlckhjjfipbabTkAl
namespace Go.Proofs.Ytbmlckhjjfipbab
open Go.RowKit
set_option linter.unusedVariables false
set_option linter.unusedSimpArgs false

set_option maxRecDepth 100000 in
set_option maxHeartbeats 1000000 in
theorem exallow_walk (r s : Int) (v : Bool) (w : World) : Calls Try.prog 3 #[.int .i64 r, .int .i64 s, .bool v] w fun e w' => e = .returned (.bool true) ∧ Below w.heap.size w w' := by
  go_enter Try.func3, Try.ntmps3
  go_wp2_with fail
  refine (sallow_any r s v w).mono ?_
  rintro e w1 ⟨rfl, rfl⟩
  go_wp2_with fail
  refine (iallow_any r s v w).mono ?_
  rintro e w2 ⟨rfl, rfl⟩
  go_wp2_with fail
  go_ret
  exact ⟨by simp, Below.refl _ _⟩

end Go.Proofs.Ytbmlckhjjfipbab
