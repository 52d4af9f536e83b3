/-
  No cell of these rows narrows 'for every input' (looked for: loops, veiled, ifaces, maps, wideKeys, modest, calm, conditions, laid).
  DERIVED. THE GIVEN ROWS OF THIS SEAT. 5 by the template 'for every input the law returns true; each argument reads behind the call as it read before'; 0 by the template 'total and deterministic' (their statements: YtfggldholaibeaaTotals.lean).
  GIVEN WITH THE SEED: the statements are not yours to turn. If you find one false, say at which input.
  Laid BY PROGRAM, IN A SANDBOX (cutbox-rows.mjs): the forced cells as the released guide's own fill.sh prints them over the translation 78fd0cd6bb8adf8e… (all of the seat's roots in one cut). By AI agents, Wed Nov 11 2026. No macro, syntax, notation, axiom, sorry.
-/
import Derived.Test.YtfggldholaibeaaChecked
import GoSem.Claim
import GoSem.ClaimJoined
import GoSem.ClaimMapViews
import Derived.JoinedTies
import Derived.KernelRfl
namespace Go.Proofs.Ytfggldholaibeaa
/- THE CELL 'sum', in the pinned program and in every row, IS THE sha256 OF THE DUMP (.gsa) THAT YtfggldholaibeaaProg.lean LOADS. Nothing in Lean hashes anything: it is a label: what it is worth is what the hold of that sum in a sandbox is worth. -/
noncomputable def Try.pinned : Pinned := { name := "ytfggldholaibeaa", sum := "78fd0cd6bb8adf8e1d4514e597ada252f1eeb5ad277b2110567cb6cc17571fa9", checked := Try.checked }
namespace Rows
def none {H : Type} : Left H := { results := [], args := [] }

/-- 'laws.FnExactWindowsValid': WHATEVER THE INPUT: true; the input reads as it did. -/
def fnExactWindowsValidSpec : ChangeSpec := { name := "fnExactWindowsValid", fn := fun _ => fun
  | [d] => { results := [.lit (.bool true)], args := [d] }
  | _ => none }
def fnExactWindowsValidRow : OpenClaim := { program := "ytfggldholaibeaa", sum := "78fd0cd6bb8adf8e1d4514e597ada252f1eeb5ad277b2110567cb6cc17571fa9", func := "loop.example/multipathtransport/laws.FnExactWindowsValid", spec := "fnExactWindowsValid", unfollowed := true, recurses := true, apart := false }
def FnExactWindowsValidSaid : Prop := fnExactWindowsValidRow.holds Try.pinned (OpenSpec.ofChange fnExactWindowsValidSpec)

/-- ITS FALSE NEIGHBOUR: 'it returns false'. Refute it at one input. -/
def fnExactWindowsValidWrong : ChangeSpec := { name := "fnExactWindowsValid", fn := fun _ => fun
  | [d] => { results := [.lit (.bool false)], args := [d] }
  | _ => none }
def FnExactWindowsValidWrongFalsely : Prop := fnExactWindowsValidRow.holds Try.pinned (OpenSpec.ofChange fnExactWindowsValidWrong)

/-- 'laws.FnExactWindowIncrease': WHATEVER THE INPUT: true; the input reads as it did. -/
def fnExactWindowIncreaseSpec : ChangeSpec := { name := "fnExactWindowIncrease", fn := fun _ => fun
  | [d1, d2] => { results := [.lit (.bool true)], args := [d1, d2] }
  | _ => none }
def fnExactWindowIncreaseRow : OpenClaim := { program := "ytfggldholaibeaa", sum := "78fd0cd6bb8adf8e1d4514e597ada252f1eeb5ad277b2110567cb6cc17571fa9", func := "loop.example/multipathtransport/laws.FnExactWindowIncrease", spec := "fnExactWindowIncrease", unfollowed := true, recurses := true, apart := false }
def FnExactWindowIncreaseSaid : Prop := fnExactWindowIncreaseRow.holds Try.pinned (OpenSpec.ofChange fnExactWindowIncreaseSpec)

/-- ITS FALSE NEIGHBOUR: 'it returns false'. Refute it at one input. -/
def fnExactWindowIncreaseWrong : ChangeSpec := { name := "fnExactWindowIncrease", fn := fun _ => fun
  | [d1, d2] => { results := [.lit (.bool false)], args := [d1, d2] }
  | _ => none }
def FnExactWindowIncreaseWrongFalsely : Prop := fnExactWindowIncreaseRow.holds Try.pinned (OpenSpec.ofChange fnExactWindowIncreaseWrong)

/-- 'laws.FnExactWindowAck': WHATEVER THE INPUT: true; the input reads as it did. -/
def fnExactWindowAckSpec : ChangeSpec := { name := "fnExactWindowAck", fn := fun _ => fun
  | [d1, d2] => { results := [.lit (.bool true)], args := [d1, d2] }
  | _ => none }
def fnExactWindowAckRow : OpenClaim := { program := "ytfggldholaibeaa", sum := "78fd0cd6bb8adf8e1d4514e597ada252f1eeb5ad277b2110567cb6cc17571fa9", func := "loop.example/multipathtransport/laws.FnExactWindowAck", spec := "fnExactWindowAck", unfollowed := true, recurses := true, apart := false }
def FnExactWindowAckSaid : Prop := fnExactWindowAckRow.holds Try.pinned (OpenSpec.ofChange fnExactWindowAckSpec)

/-- ITS FALSE NEIGHBOUR: 'it returns false'. Refute it at one input. -/
def fnExactWindowAckWrong : ChangeSpec := { name := "fnExactWindowAck", fn := fun _ => fun
  | [d1, d2] => { results := [.lit (.bool false)], args := [d1, d2] }
  | _ => none }
def FnExactWindowAckWrongFalsely : Prop := fnExactWindowAckRow.holds Try.pinned (OpenSpec.ofChange fnExactWindowAckWrong)

/-- 'laws.FnExactWindowLoss': WHATEVER THE INPUT: true; the input reads as it did. -/
def fnExactWindowLossSpec : ChangeSpec := { name := "fnExactWindowLoss", fn := fun _ => fun
  | [d1, d2] => { results := [.lit (.bool true)], args := [d1, d2] }
  | _ => none }
def fnExactWindowLossRow : OpenClaim := { program := "ytfggldholaibeaa", sum := "78fd0cd6bb8adf8e1d4514e597ada252f1eeb5ad277b2110567cb6cc17571fa9", func := "loop.example/multipathtransport/laws.FnExactWindowLoss", spec := "fnExactWindowLoss", unfollowed := true, recurses := true, apart := false }
def FnExactWindowLossSaid : Prop := fnExactWindowLossRow.holds Try.pinned (OpenSpec.ofChange fnExactWindowLossSpec)

/-- ITS FALSE NEIGHBOUR: 'it returns false'. Refute it at one input. -/
def fnExactWindowLossWrong : ChangeSpec := { name := "fnExactWindowLoss", fn := fun _ => fun
  | [d1, d2] => { results := [.lit (.bool false)], args := [d1, d2] }
  | _ => none }
def FnExactWindowLossWrongFalsely : Prop := fnExactWindowLossRow.holds Try.pinned (OpenSpec.ofChange fnExactWindowLossWrong)

/-- 'laws.FnExactWindowTotal': WHATEVER THE INPUT: true; the input reads as it did. -/
def fnExactWindowTotalSpec : ChangeSpec := { name := "fnExactWindowTotal", fn := fun _ => fun
  | [d] => { results := [.lit (.bool true)], args := [d] }
  | _ => none }
def fnExactWindowTotalRow : OpenClaim := { program := "ytfggldholaibeaa", sum := "78fd0cd6bb8adf8e1d4514e597ada252f1eeb5ad277b2110567cb6cc17571fa9", func := "loop.example/multipathtransport/laws.FnExactWindowTotal", spec := "fnExactWindowTotal", unfollowed := true, recurses := true, apart := false }
def FnExactWindowTotalSaid : Prop := fnExactWindowTotalRow.holds Try.pinned (OpenSpec.ofChange fnExactWindowTotalSpec)

/-- ITS FALSE NEIGHBOUR: 'it returns false'. Refute it at one input. -/
def fnExactWindowTotalWrong : ChangeSpec := { name := "fnExactWindowTotal", fn := fun _ => fun
  | [d] => { results := [.lit (.bool false)], args := [d] }
  | _ => none }
def FnExactWindowTotalWrongFalsely : Prop := fnExactWindowTotalRow.holds Try.pinned (OpenSpec.ofChange fnExactWindowTotalWrong)

/- THE SECOND FORM. 'bulk': how many values and letters a reading holds, each counted each time it is reached (what is shared counts as often as it is met; a slice's spare places count too). A statement '..UptoSaid' is the law's where the arguments, and the package variables that the reading takes, are together of bulk at most 1048576: NARROWER than '..Said'. Prove '..Said' where nothing that the law and all that it calls make is longer than what came in: it says more and counts as full. Else prove '..UptoSaid'. A law counts once. -/
mutual
def uptoBulk {H : Type} : DataW H → Nat
  | .lit (.string bytes) => bytes.length + 1
  | .lit _ => 1
  | .nil => 1
  | .ptr d => uptoBulk d + 1
  | .slice elems spare => uptoBulkAll elems + uptoBulkAll spare + 1
  | .agg parts => uptoBulkAll parts + 1
  | .iface _ d => uptoBulk d + 1
  | .map entries => uptoBulkEntries entries + 1
  | .held _ => 1
def uptoBulkAll {H : Type} : List (DataW H) → Nat
  | [] => 0
  | d :: r => uptoBulk d + uptoBulkAll r
def uptoBulkEntries {H : Type} : List (Lit × DataW H) → Nat
  | [] => 0
  | x :: r => uptoBulkEntry x + uptoBulkEntries r
def uptoBulkEntry {H : Type} : Lit × DataW H → Nat
  | (.string bytes, d) => bytes.length + uptoBulk d + 1
  | (_, d) => uptoBulk d + 1
 end
def uptoSmall : (H : Type) → List (DataW H) → Bool := fun _ ds => decide (uptoBulkAll ds ≤ 1048576)
def OpenSpec.upto (s : _root_.Go.ChangeSpec) : _root_.Go.OpenSpec := { _root_.Go.OpenSpec.ofChange s with cond := some uptoSmall }

/-- 'laws.FnExactWindowsValid', WHERE WHAT IT READS IS OF BULK AT MOST 1048576: true; the input reads as it did. -/
def fnExactWindowsValidUptoRow : OpenClaim := { program := "ytfggldholaibeaa", sum := "78fd0cd6bb8adf8e1d4514e597ada252f1eeb5ad277b2110567cb6cc17571fa9", func := "loop.example/multipathtransport/laws.FnExactWindowsValid", spec := "fnExactWindowsValid", unfollowed := true, recurses := true, apart := false, narrowed := true }
def FnExactWindowsValidUptoSaid : Prop := fnExactWindowsValidUptoRow.holds Try.pinned (OpenSpec.upto fnExactWindowsValidSpec)

/-- 'laws.FnExactWindowIncrease', WHERE WHAT IT READS IS OF BULK AT MOST 1048576: true; the input reads as it did. -/
def fnExactWindowIncreaseUptoRow : OpenClaim := { program := "ytfggldholaibeaa", sum := "78fd0cd6bb8adf8e1d4514e597ada252f1eeb5ad277b2110567cb6cc17571fa9", func := "loop.example/multipathtransport/laws.FnExactWindowIncrease", spec := "fnExactWindowIncrease", unfollowed := true, recurses := true, apart := false, narrowed := true }
def FnExactWindowIncreaseUptoSaid : Prop := fnExactWindowIncreaseUptoRow.holds Try.pinned (OpenSpec.upto fnExactWindowIncreaseSpec)

/-- 'laws.FnExactWindowAck', WHERE WHAT IT READS IS OF BULK AT MOST 1048576: true; the input reads as it did. -/
def fnExactWindowAckUptoRow : OpenClaim := { program := "ytfggldholaibeaa", sum := "78fd0cd6bb8adf8e1d4514e597ada252f1eeb5ad277b2110567cb6cc17571fa9", func := "loop.example/multipathtransport/laws.FnExactWindowAck", spec := "fnExactWindowAck", unfollowed := true, recurses := true, apart := false, narrowed := true }
def FnExactWindowAckUptoSaid : Prop := fnExactWindowAckUptoRow.holds Try.pinned (OpenSpec.upto fnExactWindowAckSpec)

/-- 'laws.FnExactWindowLoss', WHERE WHAT IT READS IS OF BULK AT MOST 1048576: true; the input reads as it did. -/
def fnExactWindowLossUptoRow : OpenClaim := { program := "ytfggldholaibeaa", sum := "78fd0cd6bb8adf8e1d4514e597ada252f1eeb5ad277b2110567cb6cc17571fa9", func := "loop.example/multipathtransport/laws.FnExactWindowLoss", spec := "fnExactWindowLoss", unfollowed := true, recurses := true, apart := false, narrowed := true }
def FnExactWindowLossUptoSaid : Prop := fnExactWindowLossUptoRow.holds Try.pinned (OpenSpec.upto fnExactWindowLossSpec)

/-- 'laws.FnExactWindowTotal', WHERE WHAT IT READS IS OF BULK AT MOST 1048576: true; the input reads as it did. -/
def fnExactWindowTotalUptoRow : OpenClaim := { program := "ytfggldholaibeaa", sum := "78fd0cd6bb8adf8e1d4514e597ada252f1eeb5ad277b2110567cb6cc17571fa9", func := "loop.example/multipathtransport/laws.FnExactWindowTotal", spec := "fnExactWindowTotal", unfollowed := true, recurses := true, apart := false, narrowed := true }
def FnExactWindowTotalUptoSaid : Prop := fnExactWindowTotalUptoRow.holds Try.pinned (OpenSpec.upto fnExactWindowTotalSpec)

end Rows
end Go.Proofs.Ytfggldholaibeaa
