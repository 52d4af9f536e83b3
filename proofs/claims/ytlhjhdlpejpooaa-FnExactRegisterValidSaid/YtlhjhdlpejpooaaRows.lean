/-
  No cell of these rows narrows 'for every input' (looked for: loops, veiled, ifaces, maps, wideKeys, modest, calm, conditions, laid).
  DERIVED. THE GIVEN ROWS OF THIS SEAT. 12 by the template 'for every input the law returns true; each argument reads behind the call as it read before'; 0 by the template 'total and deterministic' (their statements: YtlhjhdlpejpooaaTotals.lean).
  GIVEN WITH THE SEED: the statements are not yours to turn. If you find one false, say at which input.
  Laid BY PROGRAM, IN A SANDBOX (cutbox-rows.mjs): the forced cells as the released guide's own fill.sh prints them over the translation 6ffa06a0d9df727c… (all of the seat's roots in one cut). By AI agents, Wed Nov 11 2026. No macro, syntax, notation, axiom, sorry.
-/
import Derived.Test.YtlhjhdlpejpooaaChecked
import GoSem.Claim
import GoSem.ClaimJoined
import GoSem.ClaimMapViews
import Derived.JoinedTies
import Derived.KernelRfl
namespace Go.Proofs.Ytlhjhdlpejpooaa
/- THE CELL 'sum', in the pinned program and in every row, IS THE sha256 OF THE DUMP (.gsa) THAT YtlhjhdlpejpooaaProg.lean LOADS. Nothing in Lean hashes anything: it is a label: what it is worth is what the hold of that sum in a sandbox is worth. -/
noncomputable def Try.pinned : Pinned := { name := "ytlhjhdlpejpooaa", sum := "6ffa06a0d9df727c8bd1a32d77b99948553e1f86d5ca13b09b53a34c2c44505d", checked := Try.checked }
namespace Rows
def none {H : Type} : Left H := { results := [], args := [] }

/-- 'laws.FnRttValid': WHATEVER THE INPUT: true; the input reads as it did. -/
def fnRttValidSpec : ChangeSpec := { name := "fnRttValid", fn := fun _ => fun
  | [d] => { results := [.lit (.bool true)], args := [d] }
  | _ => none }
def fnRttValidRow : OpenClaim := { program := "ytlhjhdlpejpooaa", sum := "6ffa06a0d9df727c8bd1a32d77b99948553e1f86d5ca13b09b53a34c2c44505d", func := "loop.example/multipathtransport/laws.FnRttValid", spec := "fnRttValid", apart := false }
def FnRttValidSaid : Prop := fnRttValidRow.holds Try.pinned (OpenSpec.ofChange fnRttValidSpec)

/-- ITS FALSE NEIGHBOUR: 'it returns false'. Refute it at one input. -/
def fnRttValidWrong : ChangeSpec := { name := "fnRttValid", fn := fun _ => fun
  | [d] => { results := [.lit (.bool false)], args := [d] }
  | _ => none }
def FnRttValidWrongFalsely : Prop := fnRttValidRow.holds Try.pinned (OpenSpec.ofChange fnRttValidWrong)

/-- 'laws.FnRttLeast': WHATEVER THE INPUT: true; the input reads as it did. -/
def fnRttLeastSpec : ChangeSpec := { name := "fnRttLeast", fn := fun _ => fun
  | [d] => { results := [.lit (.bool true)], args := [d] }
  | _ => none }
def fnRttLeastRow : OpenClaim := { program := "ytlhjhdlpejpooaa", sum := "6ffa06a0d9df727c8bd1a32d77b99948553e1f86d5ca13b09b53a34c2c44505d", func := "loop.example/multipathtransport/laws.FnRttLeast", spec := "fnRttLeast", apart := false }
def FnRttLeastSaid : Prop := fnRttLeastRow.holds Try.pinned (OpenSpec.ofChange fnRttLeastSpec)

/-- ITS FALSE NEIGHBOUR: 'it returns false'. Refute it at one input. -/
def fnRttLeastWrong : ChangeSpec := { name := "fnRttLeast", fn := fun _ => fun
  | [d] => { results := [.lit (.bool false)], args := [d] }
  | _ => none }
def FnRttLeastWrongFalsely : Prop := fnRttLeastRow.holds Try.pinned (OpenSpec.ofChange fnRttLeastWrong)

/-- 'laws.FnRttFirst': WHATEVER THE INPUT: true; the input reads as it did. -/
def fnRttFirstSpec : ChangeSpec := { name := "fnRttFirst", fn := fun _ => fun
  | [d] => { results := [.lit (.bool true)], args := [d] }
  | _ => none }
def fnRttFirstRow : OpenClaim := { program := "ytlhjhdlpejpooaa", sum := "6ffa06a0d9df727c8bd1a32d77b99948553e1f86d5ca13b09b53a34c2c44505d", func := "loop.example/multipathtransport/laws.FnRttFirst", spec := "fnRttFirst", apart := false }
def FnRttFirstSaid : Prop := fnRttFirstRow.holds Try.pinned (OpenSpec.ofChange fnRttFirstSpec)

/-- ITS FALSE NEIGHBOUR: 'it returns false'. Refute it at one input. -/
def fnRttFirstWrong : ChangeSpec := { name := "fnRttFirst", fn := fun _ => fun
  | [d] => { results := [.lit (.bool false)], args := [d] }
  | _ => none }
def FnRttFirstWrongFalsely : Prop := fnRttFirstRow.holds Try.pinned (OpenSpec.ofChange fnRttFirstWrong)

/-- 'laws.FnRttDelay': WHATEVER THE INPUT: true; the input reads as it did. -/
def fnRttDelaySpec : ChangeSpec := { name := "fnRttDelay", fn := fun _ => fun
  | [d] => { results := [.lit (.bool true)], args := [d] }
  | _ => none }
def fnRttDelayRow : OpenClaim := { program := "ytlhjhdlpejpooaa", sum := "6ffa06a0d9df727c8bd1a32d77b99948553e1f86d5ca13b09b53a34c2c44505d", func := "loop.example/multipathtransport/laws.FnRttDelay", spec := "fnRttDelay", apart := false }
def FnRttDelaySaid : Prop := fnRttDelayRow.holds Try.pinned (OpenSpec.ofChange fnRttDelaySpec)

/-- ITS FALSE NEIGHBOUR: 'it returns false'. Refute it at one input. -/
def fnRttDelayWrong : ChangeSpec := { name := "fnRttDelay", fn := fun _ => fun
  | [d] => { results := [.lit (.bool false)], args := [d] }
  | _ => none }
def FnRttDelayWrongFalsely : Prop := fnRttDelayRow.holds Try.pinned (OpenSpec.ofChange fnRttDelayWrong)

/-- 'laws.FnRttToward': WHATEVER THE INPUT: true; the input reads as it did. -/
def fnRttTowardSpec : ChangeSpec := { name := "fnRttToward", fn := fun _ => fun
  | [d] => { results := [.lit (.bool true)], args := [d] }
  | _ => none }
def fnRttTowardRow : OpenClaim := { program := "ytlhjhdlpejpooaa", sum := "6ffa06a0d9df727c8bd1a32d77b99948553e1f86d5ca13b09b53a34c2c44505d", func := "loop.example/multipathtransport/laws.FnRttToward", spec := "fnRttToward", apart := false }
def FnRttTowardSaid : Prop := fnRttTowardRow.holds Try.pinned (OpenSpec.ofChange fnRttTowardSpec)

/-- ITS FALSE NEIGHBOUR: 'it returns false'. Refute it at one input. -/
def fnRttTowardWrong : ChangeSpec := { name := "fnRttToward", fn := fun _ => fun
  | [d] => { results := [.lit (.bool false)], args := [d] }
  | _ => none }
def FnRttTowardWrongFalsely : Prop := fnRttTowardRow.holds Try.pinned (OpenSpec.ofChange fnRttTowardWrong)

/-- 'laws.FnRttSteady': WHATEVER THE INPUT: true; the input reads as it did. -/
def fnRttSteadySpec : ChangeSpec := { name := "fnRttSteady", fn := fun _ => fun
  | [d] => { results := [.lit (.bool true)], args := [d] }
  | _ => none }
def fnRttSteadyRow : OpenClaim := { program := "ytlhjhdlpejpooaa", sum := "6ffa06a0d9df727c8bd1a32d77b99948553e1f86d5ca13b09b53a34c2c44505d", func := "loop.example/multipathtransport/laws.FnRttSteady", spec := "fnRttSteady", apart := false }
def FnRttSteadySaid : Prop := fnRttSteadyRow.holds Try.pinned (OpenSpec.ofChange fnRttSteadySpec)

/-- ITS FALSE NEIGHBOUR: 'it returns false'. Refute it at one input. -/
def fnRttSteadyWrong : ChangeSpec := { name := "fnRttSteady", fn := fun _ => fun
  | [d] => { results := [.lit (.bool false)], args := [d] }
  | _ => none }
def FnRttSteadyWrongFalsely : Prop := fnRttSteadyRow.holds Try.pinned (OpenSpec.ofChange fnRttSteadyWrong)

/-- 'laws.FnRttProbe': WHATEVER THE INPUT: true; the input reads as it did. -/
def fnRttProbeSpec : ChangeSpec := { name := "fnRttProbe", fn := fun _ => fun
  | [d] => { results := [.lit (.bool true)], args := [d] }
  | _ => none }
def fnRttProbeRow : OpenClaim := { program := "ytlhjhdlpejpooaa", sum := "6ffa06a0d9df727c8bd1a32d77b99948553e1f86d5ca13b09b53a34c2c44505d", func := "loop.example/multipathtransport/laws.FnRttProbe", spec := "fnRttProbe", apart := false }
def FnRttProbeSaid : Prop := fnRttProbeRow.holds Try.pinned (OpenSpec.ofChange fnRttProbeSpec)

/-- ITS FALSE NEIGHBOUR: 'it returns false'. Refute it at one input. -/
def fnRttProbeWrong : ChangeSpec := { name := "fnRttProbe", fn := fun _ => fun
  | [d] => { results := [.lit (.bool false)], args := [d] }
  | _ => none }
def FnRttProbeWrongFalsely : Prop := fnRttProbeRow.holds Try.pinned (OpenSpec.ofChange fnRttProbeWrong)

/-- 'laws.FnRttProbeMore': WHATEVER THE INPUT: true; the input reads as it did. -/
def fnRttProbeMoreSpec : ChangeSpec := { name := "fnRttProbeMore", fn := fun _ => fun
  | [d] => { results := [.lit (.bool true)], args := [d] }
  | _ => none }
def fnRttProbeMoreRow : OpenClaim := { program := "ytlhjhdlpejpooaa", sum := "6ffa06a0d9df727c8bd1a32d77b99948553e1f86d5ca13b09b53a34c2c44505d", func := "loop.example/multipathtransport/laws.FnRttProbeMore", spec := "fnRttProbeMore", apart := false }
def FnRttProbeMoreSaid : Prop := fnRttProbeMoreRow.holds Try.pinned (OpenSpec.ofChange fnRttProbeMoreSpec)

/-- ITS FALSE NEIGHBOUR: 'it returns false'. Refute it at one input. -/
def fnRttProbeMoreWrong : ChangeSpec := { name := "fnRttProbeMore", fn := fun _ => fun
  | [d] => { results := [.lit (.bool false)], args := [d] }
  | _ => none }
def FnRttProbeMoreWrongFalsely : Prop := fnRttProbeMoreRow.holds Try.pinned (OpenSpec.ofChange fnRttProbeMoreWrong)

/-- 'laws.FnRttLossDelay': WHATEVER THE INPUT: true; the input reads as it did. -/
def fnRttLossDelaySpec : ChangeSpec := { name := "fnRttLossDelay", fn := fun _ => fun
  | [d] => { results := [.lit (.bool true)], args := [d] }
  | _ => none }
def fnRttLossDelayRow : OpenClaim := { program := "ytlhjhdlpejpooaa", sum := "6ffa06a0d9df727c8bd1a32d77b99948553e1f86d5ca13b09b53a34c2c44505d", func := "loop.example/multipathtransport/laws.FnRttLossDelay", spec := "fnRttLossDelay", apart := false }
def FnRttLossDelaySaid : Prop := fnRttLossDelayRow.holds Try.pinned (OpenSpec.ofChange fnRttLossDelaySpec)

/-- ITS FALSE NEIGHBOUR: 'it returns false'. Refute it at one input. -/
def fnRttLossDelayWrong : ChangeSpec := { name := "fnRttLossDelay", fn := fun _ => fun
  | [d] => { results := [.lit (.bool false)], args := [d] }
  | _ => none }
def FnRttLossDelayWrongFalsely : Prop := fnRttLossDelayRow.holds Try.pinned (OpenSpec.ofChange fnRttLossDelayWrong)

/-- 'laws.FnRttLossVary': WHATEVER THE INPUT: true; the input reads as it did. -/
def fnRttLossVarySpec : ChangeSpec := { name := "fnRttLossVary", fn := fun _ => fun
  | [d1, d2] => { results := [.lit (.bool true)], args := [d1, d2] }
  | _ => none }
def fnRttLossVaryRow : OpenClaim := { program := "ytlhjhdlpejpooaa", sum := "6ffa06a0d9df727c8bd1a32d77b99948553e1f86d5ca13b09b53a34c2c44505d", func := "loop.example/multipathtransport/laws.FnRttLossVary", spec := "fnRttLossVary", apart := false }
def FnRttLossVarySaid : Prop := fnRttLossVaryRow.holds Try.pinned (OpenSpec.ofChange fnRttLossVarySpec)

/-- ITS FALSE NEIGHBOUR: 'it returns false'. Refute it at one input. -/
def fnRttLossVaryWrong : ChangeSpec := { name := "fnRttLossVary", fn := fun _ => fun
  | [d1, d2] => { results := [.lit (.bool false)], args := [d1, d2] }
  | _ => none }
def FnRttLossVaryWrongFalsely : Prop := fnRttLossVaryRow.holds Try.pinned (OpenSpec.ofChange fnRttLossVaryWrong)

/-- 'laws.FnRttProbeVary': WHATEVER THE INPUT: true; the input reads as it did. -/
def fnRttProbeVarySpec : ChangeSpec := { name := "fnRttProbeVary", fn := fun _ => fun
  | [d1, d2] => { results := [.lit (.bool true)], args := [d1, d2] }
  | _ => none }
def fnRttProbeVaryRow : OpenClaim := { program := "ytlhjhdlpejpooaa", sum := "6ffa06a0d9df727c8bd1a32d77b99948553e1f86d5ca13b09b53a34c2c44505d", func := "loop.example/multipathtransport/laws.FnRttProbeVary", spec := "fnRttProbeVary", apart := false }
def FnRttProbeVarySaid : Prop := fnRttProbeVaryRow.holds Try.pinned (OpenSpec.ofChange fnRttProbeVarySpec)

/-- ITS FALSE NEIGHBOUR: 'it returns false'. Refute it at one input. -/
def fnRttProbeVaryWrong : ChangeSpec := { name := "fnRttProbeVary", fn := fun _ => fun
  | [d1, d2] => { results := [.lit (.bool false)], args := [d1, d2] }
  | _ => none }
def FnRttProbeVaryWrongFalsely : Prop := fnRttProbeVaryRow.holds Try.pinned (OpenSpec.ofChange fnRttProbeVaryWrong)

/-- 'laws.FnExactRegisterValid': WHATEVER THE INPUT: true; the input reads as it did. -/
def fnExactRegisterValidSpec : ChangeSpec := { name := "fnExactRegisterValid", fn := fun _ => fun
  | [d] => { results := [.lit (.bool true)], args := [d] }
  | _ => none }
def fnExactRegisterValidRow : OpenClaim := { program := "ytlhjhdlpejpooaa", sum := "6ffa06a0d9df727c8bd1a32d77b99948553e1f86d5ca13b09b53a34c2c44505d", func := "loop.example/multipathtransport/laws.FnExactRegisterValid", spec := "fnExactRegisterValid", apart := false }
def FnExactRegisterValidSaid : Prop := fnExactRegisterValidRow.holds Try.pinned (OpenSpec.ofChange fnExactRegisterValidSpec)

/-- ITS FALSE NEIGHBOUR: 'it returns false'. Refute it at one input. -/
def fnExactRegisterValidWrong : ChangeSpec := { name := "fnExactRegisterValid", fn := fun _ => fun
  | [d] => { results := [.lit (.bool false)], args := [d] }
  | _ => none }
def FnExactRegisterValidWrongFalsely : Prop := fnExactRegisterValidRow.holds Try.pinned (OpenSpec.ofChange fnExactRegisterValidWrong)

/- THE SECOND FORM. 'bulk': how many values and letters a reading holds, each counted each time it is reached (what is shared counts as often as it is met; a slice's spare places count too). A statement '..UptoSaid' is the law's where the arguments, and the package variables that the reading takes, are together of bulk at most 1048576: NARROWER than '..Said'. Prove '..Said' where nothing that the law and all that it calls make is longer than what came in: it says more and counts as full. Else prove '..UptoSaid'. A law counts once. -/
mutual
def uptoBulk {H : Type} : DataW H → Nat
  | .lit (.string bytes) => bytes.length + 1
  | .lit _ => 1
  | .nil => 1
  | .ptr d => uptoBulk d + 1
  | .slice elems spare => uptoBulkAll elems + uptoBulkAll spare + 1
  | .agg parts => uptoBulkAll parts + 1
  | .iface _ d => uptoBulk d + 1
  | .map entries => uptoBulkEntries entries + 1
  | .held _ => 1
def uptoBulkAll {H : Type} : List (DataW H) → Nat
  | [] => 0
  | d :: r => uptoBulk d + uptoBulkAll r
def uptoBulkEntries {H : Type} : List (Lit × DataW H) → Nat
  | [] => 0
  | x :: r => uptoBulkEntry x + uptoBulkEntries r
def uptoBulkEntry {H : Type} : Lit × DataW H → Nat
  | (.string bytes, d) => bytes.length + uptoBulk d + 1
  | (_, d) => uptoBulk d + 1
 end
def uptoSmall : (H : Type) → List (DataW H) → Bool := fun _ ds => decide (uptoBulkAll ds ≤ 1048576)
def OpenSpec.upto (s : _root_.Go.ChangeSpec) : _root_.Go.OpenSpec := { _root_.Go.OpenSpec.ofChange s with cond := some uptoSmall }

/-- 'laws.FnRttValid', WHERE WHAT IT READS IS OF BULK AT MOST 1048576: true; the input reads as it did. -/
def fnRttValidUptoRow : OpenClaim := { program := "ytlhjhdlpejpooaa", sum := "6ffa06a0d9df727c8bd1a32d77b99948553e1f86d5ca13b09b53a34c2c44505d", func := "loop.example/multipathtransport/laws.FnRttValid", spec := "fnRttValid", apart := false, narrowed := true }
def FnRttValidUptoSaid : Prop := fnRttValidUptoRow.holds Try.pinned (OpenSpec.upto fnRttValidSpec)

/-- 'laws.FnRttLeast', WHERE WHAT IT READS IS OF BULK AT MOST 1048576: true; the input reads as it did. -/
def fnRttLeastUptoRow : OpenClaim := { program := "ytlhjhdlpejpooaa", sum := "6ffa06a0d9df727c8bd1a32d77b99948553e1f86d5ca13b09b53a34c2c44505d", func := "loop.example/multipathtransport/laws.FnRttLeast", spec := "fnRttLeast", apart := false, narrowed := true }
def FnRttLeastUptoSaid : Prop := fnRttLeastUptoRow.holds Try.pinned (OpenSpec.upto fnRttLeastSpec)

/-- 'laws.FnRttFirst', WHERE WHAT IT READS IS OF BULK AT MOST 1048576: true; the input reads as it did. -/
def fnRttFirstUptoRow : OpenClaim := { program := "ytlhjhdlpejpooaa", sum := "6ffa06a0d9df727c8bd1a32d77b99948553e1f86d5ca13b09b53a34c2c44505d", func := "loop.example/multipathtransport/laws.FnRttFirst", spec := "fnRttFirst", apart := false, narrowed := true }
def FnRttFirstUptoSaid : Prop := fnRttFirstUptoRow.holds Try.pinned (OpenSpec.upto fnRttFirstSpec)

/-- 'laws.FnRttDelay', WHERE WHAT IT READS IS OF BULK AT MOST 1048576: true; the input reads as it did. -/
def fnRttDelayUptoRow : OpenClaim := { program := "ytlhjhdlpejpooaa", sum := "6ffa06a0d9df727c8bd1a32d77b99948553e1f86d5ca13b09b53a34c2c44505d", func := "loop.example/multipathtransport/laws.FnRttDelay", spec := "fnRttDelay", apart := false, narrowed := true }
def FnRttDelayUptoSaid : Prop := fnRttDelayUptoRow.holds Try.pinned (OpenSpec.upto fnRttDelaySpec)

/-- 'laws.FnRttToward', WHERE WHAT IT READS IS OF BULK AT MOST 1048576: true; the input reads as it did. -/
def fnRttTowardUptoRow : OpenClaim := { program := "ytlhjhdlpejpooaa", sum := "6ffa06a0d9df727c8bd1a32d77b99948553e1f86d5ca13b09b53a34c2c44505d", func := "loop.example/multipathtransport/laws.FnRttToward", spec := "fnRttToward", apart := false, narrowed := true }
def FnRttTowardUptoSaid : Prop := fnRttTowardUptoRow.holds Try.pinned (OpenSpec.upto fnRttTowardSpec)

/-- 'laws.FnRttSteady', WHERE WHAT IT READS IS OF BULK AT MOST 1048576: true; the input reads as it did. -/
def fnRttSteadyUptoRow : OpenClaim := { program := "ytlhjhdlpejpooaa", sum := "6ffa06a0d9df727c8bd1a32d77b99948553e1f86d5ca13b09b53a34c2c44505d", func := "loop.example/multipathtransport/laws.FnRttSteady", spec := "fnRttSteady", apart := false, narrowed := true }
def FnRttSteadyUptoSaid : Prop := fnRttSteadyUptoRow.holds Try.pinned (OpenSpec.upto fnRttSteadySpec)

/-- 'laws.FnRttProbe', WHERE WHAT IT READS IS OF BULK AT MOST 1048576: true; the input reads as it did. -/
def fnRttProbeUptoRow : OpenClaim := { program := "ytlhjhdlpejpooaa", sum := "6ffa06a0d9df727c8bd1a32d77b99948553e1f86d5ca13b09b53a34c2c44505d", func := "loop.example/multipathtransport/laws.FnRttProbe", spec := "fnRttProbe", apart := false, narrowed := true }
def FnRttProbeUptoSaid : Prop := fnRttProbeUptoRow.holds Try.pinned (OpenSpec.upto fnRttProbeSpec)

/-- 'laws.FnRttProbeMore', WHERE WHAT IT READS IS OF BULK AT MOST 1048576: true; the input reads as it did. -/
def fnRttProbeMoreUptoRow : OpenClaim := { program := "ytlhjhdlpejpooaa", sum := "6ffa06a0d9df727c8bd1a32d77b99948553e1f86d5ca13b09b53a34c2c44505d", func := "loop.example/multipathtransport/laws.FnRttProbeMore", spec := "fnRttProbeMore", apart := false, narrowed := true }
def FnRttProbeMoreUptoSaid : Prop := fnRttProbeMoreUptoRow.holds Try.pinned (OpenSpec.upto fnRttProbeMoreSpec)

/-- 'laws.FnRttLossDelay', WHERE WHAT IT READS IS OF BULK AT MOST 1048576: true; the input reads as it did. -/
def fnRttLossDelayUptoRow : OpenClaim := { program := "ytlhjhdlpejpooaa", sum := "6ffa06a0d9df727c8bd1a32d77b99948553e1f86d5ca13b09b53a34c2c44505d", func := "loop.example/multipathtransport/laws.FnRttLossDelay", spec := "fnRttLossDelay", apart := false, narrowed := true }
def FnRttLossDelayUptoSaid : Prop := fnRttLossDelayUptoRow.holds Try.pinned (OpenSpec.upto fnRttLossDelaySpec)

/-- 'laws.FnRttLossVary', WHERE WHAT IT READS IS OF BULK AT MOST 1048576: true; the input reads as it did. -/
def fnRttLossVaryUptoRow : OpenClaim := { program := "ytlhjhdlpejpooaa", sum := "6ffa06a0d9df727c8bd1a32d77b99948553e1f86d5ca13b09b53a34c2c44505d", func := "loop.example/multipathtransport/laws.FnRttLossVary", spec := "fnRttLossVary", apart := false, narrowed := true }
def FnRttLossVaryUptoSaid : Prop := fnRttLossVaryUptoRow.holds Try.pinned (OpenSpec.upto fnRttLossVarySpec)

/-- 'laws.FnRttProbeVary', WHERE WHAT IT READS IS OF BULK AT MOST 1048576: true; the input reads as it did. -/
def fnRttProbeVaryUptoRow : OpenClaim := { program := "ytlhjhdlpejpooaa", sum := "6ffa06a0d9df727c8bd1a32d77b99948553e1f86d5ca13b09b53a34c2c44505d", func := "loop.example/multipathtransport/laws.FnRttProbeVary", spec := "fnRttProbeVary", apart := false, narrowed := true }
def FnRttProbeVaryUptoSaid : Prop := fnRttProbeVaryUptoRow.holds Try.pinned (OpenSpec.upto fnRttProbeVarySpec)

/-- 'laws.FnExactRegisterValid', WHERE WHAT IT READS IS OF BULK AT MOST 1048576: true; the input reads as it did. -/
def fnExactRegisterValidUptoRow : OpenClaim := { program := "ytlhjhdlpejpooaa", sum := "6ffa06a0d9df727c8bd1a32d77b99948553e1f86d5ca13b09b53a34c2c44505d", func := "loop.example/multipathtransport/laws.FnExactRegisterValid", spec := "fnExactRegisterValid", apart := false, narrowed := true }
def FnExactRegisterValidUptoSaid : Prop := fnExactRegisterValidUptoRow.holds Try.pinned (OpenSpec.upto fnExactRegisterValidSpec)

end Rows
end Go.Proofs.Ytlhjhdlpejpooaa
