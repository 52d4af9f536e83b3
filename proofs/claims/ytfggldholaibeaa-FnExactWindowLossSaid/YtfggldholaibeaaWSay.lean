/- Calls that say yes or no. -/
import Derived.Test.YtfggldholaibeaaWdMath
import Derived.Below
namespace Go.Proofs.Ytfggldholaibeaa
open Go.RowKit
set_option linter.unusedVariables false
set_option linter.unusedSimpArgs false

/-- A call that says q and leaves the world. -/
def Says (f : FuncId) (args : Array Value) (q : Bool) : Prop := ∀ w, Calls Try.prog f args w fun e w' => e = .returned (.bool q) ∧ w = w'
def BoolW (w : World) (q : Bool) (e : Ending) (w' : World) : Prop := e = .returned (.bool q) ∧ Below w.heap.size w w'
theorem wok1_dec (a b c d : Int) : decide (wok1 (a, b, c, d)) = (decide (1 ≤ a ∧ a ≤ 64) && (decide (1 ≤ b ∧ b ≤ 64) && (decide (0 ≤ c ∧ c ≤ 999) && decide (1 ≤ d ∧ d ≤ 99)))) := by
  rw [Bool.eq_iff_iff]
  simp only [Bool.and_eq_true, decide_eq_true_eq]
  exact Iff.rfl
end Go.Proofs.Ytfggldholaibeaa
