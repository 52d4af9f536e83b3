/-
  No cell of these rows narrows 'for every input' (looked for: loops, veiled, ifaces, maps, wideKeys, modest, calm, conditions, laid).
  DERIVED. THE GIVEN ROWS OF THIS SEAT. 7 by the template 'for every input the law returns true; each argument reads behind the call as it read before'; 0 by the template 'total and deterministic' (their statements: YtlhjhdlpejpooabTotals.lean).
  GIVEN WITH THE SEED: the statements are not yours to turn. If you find one false, say at which input.
  Laid BY PROGRAM, IN A SANDBOX (cutbox-rows.mjs): the forced cells as the released guide's own fill.sh prints them over the translation f18b04b125fb8ada… (all of the seat's roots in one cut). By AI agents, Wed Nov 11 2026. No macro, syntax, notation, axiom, sorry.
-/
import Derived.Test.YtlhjhdlpejpooabChecked
import GoSem.Claim
import GoSem.ClaimJoined
import GoSem.ClaimMapViews
import Derived.JoinedTies
import Derived.KernelRfl
namespace Go.Proofs.Ytlhjhdlpejpooab
/- THE CELL 'sum', in the pinned program and in every row, IS THE sha256 OF THE DUMP (.gsa) THAT YtlhjhdlpejpooabProg.lean LOADS. Nothing in Lean hashes anything: it is a label: what it is worth is what the hold of that sum in a sandbox is worth. -/
noncomputable def Try.pinned : Pinned := { name := "ytlhjhdlpejpooab", sum := "f18b04b125fb8adade6bd7118e2c915cbb76af8dfbf3286a69a7288b677cd7e7", checked := Try.checked }
namespace Rows
def none {H : Type} : Left H := { results := [], args := [] }

/-- 'laws.FnExactRegisterTick': WHATEVER THE INPUT: true; the input reads as it did. -/
def fnExactRegisterTickSpec : ChangeSpec := { name := "fnExactRegisterTick", fn := fun _ => fun
  | [d1, d2] => { results := [.lit (.bool true)], args := [d1, d2] }
  | _ => none }
def fnExactRegisterTickRow : OpenClaim := { program := "ytlhjhdlpejpooab", sum := "f18b04b125fb8adade6bd7118e2c915cbb76af8dfbf3286a69a7288b677cd7e7", func := "loop.example/multipathtransport/laws.FnExactRegisterTick", spec := "fnExactRegisterTick", unfollowed := true, recurses := true, apart := false }
def FnExactRegisterTickSaid : Prop := fnExactRegisterTickRow.holds Try.pinned (OpenSpec.ofChange fnExactRegisterTickSpec)

/-- ITS FALSE NEIGHBOUR: 'it returns false'. Refute it at one input. -/
def fnExactRegisterTickWrong : ChangeSpec := { name := "fnExactRegisterTick", fn := fun _ => fun
  | [d1, d2] => { results := [.lit (.bool false)], args := [d1, d2] }
  | _ => none }
def FnExactRegisterTickWrongFalsely : Prop := fnExactRegisterTickRow.holds Try.pinned (OpenSpec.ofChange fnExactRegisterTickWrong)

/-- 'laws.FnExactRegisterTry': WHATEVER THE INPUT: true; the input reads as it did. -/
def fnExactRegisterTrySpec : ChangeSpec := { name := "fnExactRegisterTry", fn := fun _ => fun
  | [d1, d2] => { results := [.lit (.bool true)], args := [d1, d2] }
  | _ => none }
def fnExactRegisterTryRow : OpenClaim := { program := "ytlhjhdlpejpooab", sum := "f18b04b125fb8adade6bd7118e2c915cbb76af8dfbf3286a69a7288b677cd7e7", func := "loop.example/multipathtransport/laws.FnExactRegisterTry", spec := "fnExactRegisterTry", inPlace := ["slices.overlaps[loop.example/multipathtransport/impl.Ticket]"], unfollowed := true, recurses := true, apart := false }
def FnExactRegisterTrySaid : Prop := fnExactRegisterTryRow.holds Try.pinned (OpenSpec.ofChange fnExactRegisterTrySpec)

/-- ITS FALSE NEIGHBOUR: 'it returns false'. Refute it at one input. -/
def fnExactRegisterTryWrong : ChangeSpec := { name := "fnExactRegisterTry", fn := fun _ => fun
  | [d1, d2] => { results := [.lit (.bool false)], args := [d1, d2] }
  | _ => none }
def FnExactRegisterTryWrongFalsely : Prop := fnExactRegisterTryRow.holds Try.pinned (OpenSpec.ofChange fnExactRegisterTryWrong)

/-- 'laws.FnExactServersTry': WHATEVER THE INPUT: true; the input reads as it did. -/
def fnExactServersTrySpec : ChangeSpec := { name := "fnExactServersTry", fn := fun _ => fun
  | [d1, d2, d3] => { results := [.lit (.bool true)], args := [d1, d2, d3] }
  | _ => none }
def fnExactServersTryRow : OpenClaim := { program := "ytlhjhdlpejpooab", sum := "f18b04b125fb8adade6bd7118e2c915cbb76af8dfbf3286a69a7288b677cd7e7", func := "loop.example/multipathtransport/laws.FnExactServersTry", spec := "fnExactServersTry", inPlace := ["slices.overlaps[loop.example/multipathtransport/impl.Ticket]"], unfollowed := true, recurses := true, apart := false }
def FnExactServersTrySaid : Prop := fnExactServersTryRow.holds Try.pinned (OpenSpec.ofChange fnExactServersTrySpec)

/-- ITS FALSE NEIGHBOUR: 'it returns false'. Refute it at one input. -/
def fnExactServersTryWrong : ChangeSpec := { name := "fnExactServersTry", fn := fun _ => fun
  | [d1, d2, d3] => { results := [.lit (.bool false)], args := [d1, d2, d3] }
  | _ => none }
def FnExactServersTryWrongFalsely : Prop := fnExactServersTryRow.holds Try.pinned (OpenSpec.ofChange fnExactServersTryWrong)

/-- 'laws.FnExactRttValid': WHATEVER THE INPUT: true; the input reads as it did. -/
def fnExactRttValidSpec : ChangeSpec := { name := "fnExactRttValid", fn := fun _ => fun
  | [d] => { results := [.lit (.bool true)], args := [d] }
  | _ => none }
def fnExactRttValidRow : OpenClaim := { program := "ytlhjhdlpejpooab", sum := "f18b04b125fb8adade6bd7118e2c915cbb76af8dfbf3286a69a7288b677cd7e7", func := "loop.example/multipathtransport/laws.FnExactRttValid", spec := "fnExactRttValid", apart := false }
def FnExactRttValidSaid : Prop := fnExactRttValidRow.holds Try.pinned (OpenSpec.ofChange fnExactRttValidSpec)

/-- ITS FALSE NEIGHBOUR: 'it returns false'. Refute it at one input. -/
def fnExactRttValidWrong : ChangeSpec := { name := "fnExactRttValid", fn := fun _ => fun
  | [d] => { results := [.lit (.bool false)], args := [d] }
  | _ => none }
def FnExactRttValidWrongFalsely : Prop := fnExactRttValidRow.holds Try.pinned (OpenSpec.ofChange fnExactRttValidWrong)

/-- 'laws.FnExactRttUpdate': WHATEVER THE INPUT: true; the input reads as it did. -/
def fnExactRttUpdateSpec : ChangeSpec := { name := "fnExactRttUpdate", fn := fun _ => fun
  | [d1, d2, d3] => { results := [.lit (.bool true)], args := [d1, d2, d3] }
  | _ => none }
def fnExactRttUpdateRow : OpenClaim := { program := "ytlhjhdlpejpooab", sum := "f18b04b125fb8adade6bd7118e2c915cbb76af8dfbf3286a69a7288b677cd7e7", func := "loop.example/multipathtransport/laws.FnExactRttUpdate", spec := "fnExactRttUpdate", apart := false }
def FnExactRttUpdateSaid : Prop := fnExactRttUpdateRow.holds Try.pinned (OpenSpec.ofChange fnExactRttUpdateSpec)

/-- ITS FALSE NEIGHBOUR: 'it returns false'. Refute it at one input. -/
def fnExactRttUpdateWrong : ChangeSpec := { name := "fnExactRttUpdate", fn := fun _ => fun
  | [d1, d2, d3] => { results := [.lit (.bool false)], args := [d1, d2, d3] }
  | _ => none }
def FnExactRttUpdateWrongFalsely : Prop := fnExactRttUpdateRow.holds Try.pinned (OpenSpec.ofChange fnExactRttUpdateWrong)

/-- 'laws.FnExactRttProbe': WHATEVER THE INPUT: true; the input reads as it did. -/
def fnExactRttProbeSpec : ChangeSpec := { name := "fnExactRttProbe", fn := fun _ => fun
  | [d1, d2] => { results := [.lit (.bool true)], args := [d1, d2] }
  | _ => none }
def fnExactRttProbeRow : OpenClaim := { program := "ytlhjhdlpejpooab", sum := "f18b04b125fb8adade6bd7118e2c915cbb76af8dfbf3286a69a7288b677cd7e7", func := "loop.example/multipathtransport/laws.FnExactRttProbe", spec := "fnExactRttProbe", apart := false }
def FnExactRttProbeSaid : Prop := fnExactRttProbeRow.holds Try.pinned (OpenSpec.ofChange fnExactRttProbeSpec)

/-- ITS FALSE NEIGHBOUR: 'it returns false'. Refute it at one input. -/
def fnExactRttProbeWrong : ChangeSpec := { name := "fnExactRttProbe", fn := fun _ => fun
  | [d1, d2] => { results := [.lit (.bool false)], args := [d1, d2] }
  | _ => none }
def FnExactRttProbeWrongFalsely : Prop := fnExactRttProbeRow.holds Try.pinned (OpenSpec.ofChange fnExactRttProbeWrong)

/-- 'laws.FnExactRttLossDelay': WHATEVER THE INPUT: true; the input reads as it did. -/
def fnExactRttLossDelaySpec : ChangeSpec := { name := "fnExactRttLossDelay", fn := fun _ => fun
  | [d] => { results := [.lit (.bool true)], args := [d] }
  | _ => none }
def fnExactRttLossDelayRow : OpenClaim := { program := "ytlhjhdlpejpooab", sum := "f18b04b125fb8adade6bd7118e2c915cbb76af8dfbf3286a69a7288b677cd7e7", func := "loop.example/multipathtransport/laws.FnExactRttLossDelay", spec := "fnExactRttLossDelay", apart := false }
def FnExactRttLossDelaySaid : Prop := fnExactRttLossDelayRow.holds Try.pinned (OpenSpec.ofChange fnExactRttLossDelaySpec)

/-- ITS FALSE NEIGHBOUR: 'it returns false'. Refute it at one input. -/
def fnExactRttLossDelayWrong : ChangeSpec := { name := "fnExactRttLossDelay", fn := fun _ => fun
  | [d] => { results := [.lit (.bool false)], args := [d] }
  | _ => none }
def FnExactRttLossDelayWrongFalsely : Prop := fnExactRttLossDelayRow.holds Try.pinned (OpenSpec.ofChange fnExactRttLossDelayWrong)

/- THE SECOND FORM. 'bulk': how many values and letters a reading holds, each counted each time it is reached (what is shared counts as often as it is met; a slice's spare places count too). A statement '..UptoSaid' is the law's where the arguments, and the package variables that the reading takes, are together of bulk at most 1048576: NARROWER than '..Said'. Prove '..Said' where nothing that the law and all that it calls make is longer than what came in: it says more and counts as full. Else prove '..UptoSaid'. A law counts once. -/
mutual
def uptoBulk {H : Type} : DataW H → Nat
  | .lit (.string bytes) => bytes.length + 1
  | .lit _ => 1
  | .nil => 1
  | .ptr d => uptoBulk d + 1
  | .slice elems spare => uptoBulkAll elems + uptoBulkAll spare + 1
  | .agg parts => uptoBulkAll parts + 1
  | .iface _ d => uptoBulk d + 1
  | .map entries => uptoBulkEntries entries + 1
  | .held _ => 1
def uptoBulkAll {H : Type} : List (DataW H) → Nat
  | [] => 0
  | d :: r => uptoBulk d + uptoBulkAll r
def uptoBulkEntries {H : Type} : List (Lit × DataW H) → Nat
  | [] => 0
  | x :: r => uptoBulkEntry x + uptoBulkEntries r
def uptoBulkEntry {H : Type} : Lit × DataW H → Nat
  | (.string bytes, d) => bytes.length + uptoBulk d + 1
  | (_, d) => uptoBulk d + 1
 end
def uptoSmall : (H : Type) → List (DataW H) → Bool := fun _ ds => decide (uptoBulkAll ds ≤ 1048576)
def OpenSpec.upto (s : _root_.Go.ChangeSpec) : _root_.Go.OpenSpec := { _root_.Go.OpenSpec.ofChange s with cond := some uptoSmall }

/-- 'laws.FnExactRegisterTick', WHERE WHAT IT READS IS OF BULK AT MOST 1048576: true; the input reads as it did. -/
def fnExactRegisterTickUptoRow : OpenClaim := { program := "ytlhjhdlpejpooab", sum := "f18b04b125fb8adade6bd7118e2c915cbb76af8dfbf3286a69a7288b677cd7e7", func := "loop.example/multipathtransport/laws.FnExactRegisterTick", spec := "fnExactRegisterTick", unfollowed := true, recurses := true, apart := false, narrowed := true }
def FnExactRegisterTickUptoSaid : Prop := fnExactRegisterTickUptoRow.holds Try.pinned (OpenSpec.upto fnExactRegisterTickSpec)

/-- 'laws.FnExactRegisterTry', WHERE WHAT IT READS IS OF BULK AT MOST 1048576: true; the input reads as it did. -/
def fnExactRegisterTryUptoRow : OpenClaim := { program := "ytlhjhdlpejpooab", sum := "f18b04b125fb8adade6bd7118e2c915cbb76af8dfbf3286a69a7288b677cd7e7", func := "loop.example/multipathtransport/laws.FnExactRegisterTry", spec := "fnExactRegisterTry", inPlace := ["slices.overlaps[loop.example/multipathtransport/impl.Ticket]"], unfollowed := true, recurses := true, apart := false, narrowed := true }
def FnExactRegisterTryUptoSaid : Prop := fnExactRegisterTryUptoRow.holds Try.pinned (OpenSpec.upto fnExactRegisterTrySpec)

/-- 'laws.FnExactServersTry', WHERE WHAT IT READS IS OF BULK AT MOST 1048576: true; the input reads as it did. -/
def fnExactServersTryUptoRow : OpenClaim := { program := "ytlhjhdlpejpooab", sum := "f18b04b125fb8adade6bd7118e2c915cbb76af8dfbf3286a69a7288b677cd7e7", func := "loop.example/multipathtransport/laws.FnExactServersTry", spec := "fnExactServersTry", inPlace := ["slices.overlaps[loop.example/multipathtransport/impl.Ticket]"], unfollowed := true, recurses := true, apart := false, narrowed := true }
def FnExactServersTryUptoSaid : Prop := fnExactServersTryUptoRow.holds Try.pinned (OpenSpec.upto fnExactServersTrySpec)

/-- 'laws.FnExactRttValid', WHERE WHAT IT READS IS OF BULK AT MOST 1048576: true; the input reads as it did. -/
def fnExactRttValidUptoRow : OpenClaim := { program := "ytlhjhdlpejpooab", sum := "f18b04b125fb8adade6bd7118e2c915cbb76af8dfbf3286a69a7288b677cd7e7", func := "loop.example/multipathtransport/laws.FnExactRttValid", spec := "fnExactRttValid", apart := false, narrowed := true }
def FnExactRttValidUptoSaid : Prop := fnExactRttValidUptoRow.holds Try.pinned (OpenSpec.upto fnExactRttValidSpec)

/-- 'laws.FnExactRttUpdate', WHERE WHAT IT READS IS OF BULK AT MOST 1048576: true; the input reads as it did. -/
def fnExactRttUpdateUptoRow : OpenClaim := { program := "ytlhjhdlpejpooab", sum := "f18b04b125fb8adade6bd7118e2c915cbb76af8dfbf3286a69a7288b677cd7e7", func := "loop.example/multipathtransport/laws.FnExactRttUpdate", spec := "fnExactRttUpdate", apart := false, narrowed := true }
def FnExactRttUpdateUptoSaid : Prop := fnExactRttUpdateUptoRow.holds Try.pinned (OpenSpec.upto fnExactRttUpdateSpec)

/-- 'laws.FnExactRttProbe', WHERE WHAT IT READS IS OF BULK AT MOST 1048576: true; the input reads as it did. -/
def fnExactRttProbeUptoRow : OpenClaim := { program := "ytlhjhdlpejpooab", sum := "f18b04b125fb8adade6bd7118e2c915cbb76af8dfbf3286a69a7288b677cd7e7", func := "loop.example/multipathtransport/laws.FnExactRttProbe", spec := "fnExactRttProbe", apart := false, narrowed := true }
def FnExactRttProbeUptoSaid : Prop := fnExactRttProbeUptoRow.holds Try.pinned (OpenSpec.upto fnExactRttProbeSpec)

/-- 'laws.FnExactRttLossDelay', WHERE WHAT IT READS IS OF BULK AT MOST 1048576: true; the input reads as it did. -/
def fnExactRttLossDelayUptoRow : OpenClaim := { program := "ytlhjhdlpejpooab", sum := "f18b04b125fb8adade6bd7118e2c915cbb76af8dfbf3286a69a7288b677cd7e7", func := "loop.example/multipathtransport/laws.FnExactRttLossDelay", spec := "fnExactRttLossDelay", apart := false, narrowed := true }
def FnExactRttLossDelayUptoSaid : Prop := fnExactRttLossDelayUptoRow.holds Try.pinned (OpenSpec.upto fnExactRttLossDelaySpec)

end Rows
end Go.Proofs.Ytlhjhdlpejpooab
