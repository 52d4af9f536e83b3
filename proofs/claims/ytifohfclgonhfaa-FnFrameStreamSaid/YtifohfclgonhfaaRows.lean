/-
  No cell of these rows narrows 'for every input' (looked for: loops, veiled, ifaces, maps, wideKeys, modest, calm, conditions, laid).
  DERIVED. THE GIVEN ROWS OF THIS SEAT. 12 by the template 'for every input the law returns true; each argument reads behind the call as it read before'; 0 by the template 'total and deterministic' (their statements: YtifohfclgonhfaaTotals.lean).
  GIVEN WITH THE SEED: the statements are not yours to turn. If you find one false, say at which input.
  Laid BY PROGRAM, IN A SANDBOX (cutbox-rows.mjs): the forced cells as the released guide's own fill.sh prints them over the translation 7bd3b054279725ee… (all of the seat's roots in one cut). By AI agents, Wed Nov 11 2026. No macro, syntax, notation, axiom, sorry.
-/
import Derived.Test.YtifohfclgonhfaaChecked
import GoSem.Claim
import GoSem.ClaimJoined
import GoSem.ClaimMapViews
import Derived.JoinedTies
import Derived.KernelRfl
namespace Go.Proofs.Ytifohfclgonhfaa
/- THE CELL 'sum', in the pinned program and in every row, IS THE sha256 OF THE DUMP (.gsa) THAT YtifohfclgonhfaaProg.lean LOADS. Nothing in Lean hashes anything: it is a label: what it is worth is what the hold of that sum in a sandbox is worth. -/
noncomputable def Try.pinned : Pinned := { name := "ytifohfclgonhfaa", sum := "7bd3b054279725ee86dd047cfa9444e8f50abe9d501c5708a2e628a3ccbaf23e", checked := Try.checked }
namespace Rows
def none {H : Type} : Left H := { results := [], args := [] }

/-- 'laws.FnFrameRoundTrip': WHATEVER THE INPUT: true; the input reads as it did. -/
def fnFrameRoundTripSpec : ChangeSpec := { name := "fnFrameRoundTrip", fn := fun _ => fun
  | [d1, d2] => { results := [.lit (.bool true)], args := [d1, d2] }
  | _ => none }
def fnFrameRoundTripRow : OpenClaim := { program := "ytifohfclgonhfaa", sum := "7bd3b054279725ee86dd047cfa9444e8f50abe9d501c5708a2e628a3ccbaf23e", func := "loop.example/multipathtransport/laws.FnFrameRoundTrip", spec := "fnFrameRoundTrip", inPlace := ["internal/abi.NoEscape"], unfollowed := true, recurses := true, apart := false }
def FnFrameRoundTripSaid : Prop := fnFrameRoundTripRow.holds Try.pinned (OpenSpec.ofChange fnFrameRoundTripSpec)

/-- ITS FALSE NEIGHBOUR: 'it returns false'. Refute it at one input. -/
def fnFrameRoundTripWrong : ChangeSpec := { name := "fnFrameRoundTrip", fn := fun _ => fun
  | [d1, d2] => { results := [.lit (.bool false)], args := [d1, d2] }
  | _ => none }
def FnFrameRoundTripWrongFalsely : Prop := fnFrameRoundTripRow.holds Try.pinned (OpenSpec.ofChange fnFrameRoundTripWrong)

/-- 'laws.FnFrameOneWay': WHATEVER THE INPUT: true; the input reads as it did. -/
def fnFrameOneWaySpec : ChangeSpec := { name := "fnFrameOneWay", fn := fun _ => fun
  | [d] => { results := [.lit (.bool true)], args := [d] }
  | _ => none }
def fnFrameOneWayRow : OpenClaim := { program := "ytifohfclgonhfaa", sum := "7bd3b054279725ee86dd047cfa9444e8f50abe9d501c5708a2e628a3ccbaf23e", func := "loop.example/multipathtransport/laws.FnFrameOneWay", spec := "fnFrameOneWay", inPlace := ["internal/abi.NoEscape"], unfollowed := true, recurses := true, apart := false }
def FnFrameOneWaySaid : Prop := fnFrameOneWayRow.holds Try.pinned (OpenSpec.ofChange fnFrameOneWaySpec)

/-- ITS FALSE NEIGHBOUR: 'it returns false'. Refute it at one input. -/
def fnFrameOneWayWrong : ChangeSpec := { name := "fnFrameOneWay", fn := fun _ => fun
  | [d] => { results := [.lit (.bool false)], args := [d] }
  | _ => none }
def FnFrameOneWayWrongFalsely : Prop := fnFrameOneWayRow.holds Try.pinned (OpenSpec.ofChange fnFrameOneWayWrong)

/-- 'laws.FnFramePrefix': WHATEVER THE INPUT: true; the input reads as it did. -/
def fnFramePrefixSpec : ChangeSpec := { name := "fnFramePrefix", fn := fun _ => fun
  | [d] => { results := [.lit (.bool true)], args := [d] }
  | _ => none }
def fnFramePrefixRow : OpenClaim := { program := "ytifohfclgonhfaa", sum := "7bd3b054279725ee86dd047cfa9444e8f50abe9d501c5708a2e628a3ccbaf23e", func := "loop.example/multipathtransport/laws.FnFramePrefix", spec := "fnFramePrefix", inPlace := ["internal/abi.NoEscape"], unfollowed := true, recurses := true, apart := false }
def FnFramePrefixSaid : Prop := fnFramePrefixRow.holds Try.pinned (OpenSpec.ofChange fnFramePrefixSpec)

/-- ITS FALSE NEIGHBOUR: 'it returns false'. Refute it at one input. -/
def fnFramePrefixWrong : ChangeSpec := { name := "fnFramePrefix", fn := fun _ => fun
  | [d] => { results := [.lit (.bool false)], args := [d] }
  | _ => none }
def FnFramePrefixWrongFalsely : Prop := fnFramePrefixRow.holds Try.pinned (OpenSpec.ofChange fnFramePrefixWrong)

/-- 'laws.FnFrameValid': WHATEVER THE INPUT: true; the input reads as it did. -/
def fnFrameValidSpec : ChangeSpec := { name := "fnFrameValid", fn := fun _ => fun
  | [d] => { results := [.lit (.bool true)], args := [d] }
  | _ => none }
def fnFrameValidRow : OpenClaim := { program := "ytifohfclgonhfaa", sum := "7bd3b054279725ee86dd047cfa9444e8f50abe9d501c5708a2e628a3ccbaf23e", func := "loop.example/multipathtransport/laws.FnFrameValid", spec := "fnFrameValid", inPlace := ["internal/abi.NoEscape"], unfollowed := true, recurses := true, apart := false }
def FnFrameValidSaid : Prop := fnFrameValidRow.holds Try.pinned (OpenSpec.ofChange fnFrameValidSpec)

/-- ITS FALSE NEIGHBOUR: 'it returns false'. Refute it at one input. -/
def fnFrameValidWrong : ChangeSpec := { name := "fnFrameValid", fn := fun _ => fun
  | [d] => { results := [.lit (.bool false)], args := [d] }
  | _ => none }
def FnFrameValidWrongFalsely : Prop := fnFrameValidRow.holds Try.pinned (OpenSpec.ofChange fnFrameValidWrong)

/-- 'laws.FnFramesRoundTrip': WHATEVER THE INPUT: true; the input reads as it did. -/
def fnFramesRoundTripSpec : ChangeSpec := { name := "fnFramesRoundTrip", fn := fun _ => fun
  | [d] => { results := [.lit (.bool true)], args := [d] }
  | _ => none }
def fnFramesRoundTripRow : OpenClaim := { program := "ytifohfclgonhfaa", sum := "7bd3b054279725ee86dd047cfa9444e8f50abe9d501c5708a2e628a3ccbaf23e", func := "loop.example/multipathtransport/laws.FnFramesRoundTrip", spec := "fnFramesRoundTrip", inPlace := ["internal/abi.NoEscape"], unfollowed := true, recurses := true, apart := false }
def FnFramesRoundTripSaid : Prop := fnFramesRoundTripRow.holds Try.pinned (OpenSpec.ofChange fnFramesRoundTripSpec)

/-- ITS FALSE NEIGHBOUR: 'it returns false'. Refute it at one input. -/
def fnFramesRoundTripWrong : ChangeSpec := { name := "fnFramesRoundTrip", fn := fun _ => fun
  | [d] => { results := [.lit (.bool false)], args := [d] }
  | _ => none }
def FnFramesRoundTripWrongFalsely : Prop := fnFramesRoundTripRow.holds Try.pinned (OpenSpec.ofChange fnFramesRoundTripWrong)

/-- 'laws.FnFramesOneWay': WHATEVER THE INPUT: true; the input reads as it did. -/
def fnFramesOneWaySpec : ChangeSpec := { name := "fnFramesOneWay", fn := fun _ => fun
  | [d] => { results := [.lit (.bool true)], args := [d] }
  | _ => none }
def fnFramesOneWayRow : OpenClaim := { program := "ytifohfclgonhfaa", sum := "7bd3b054279725ee86dd047cfa9444e8f50abe9d501c5708a2e628a3ccbaf23e", func := "loop.example/multipathtransport/laws.FnFramesOneWay", spec := "fnFramesOneWay", inPlace := ["internal/abi.NoEscape"], unfollowed := true, recurses := true, apart := false }
def FnFramesOneWaySaid : Prop := fnFramesOneWayRow.holds Try.pinned (OpenSpec.ofChange fnFramesOneWaySpec)

/-- ITS FALSE NEIGHBOUR: 'it returns false'. Refute it at one input. -/
def fnFramesOneWayWrong : ChangeSpec := { name := "fnFramesOneWay", fn := fun _ => fun
  | [d] => { results := [.lit (.bool false)], args := [d] }
  | _ => none }
def FnFramesOneWayWrongFalsely : Prop := fnFramesOneWayRow.holds Try.pinned (OpenSpec.ofChange fnFramesOneWayWrong)

/-- 'laws.FnFramesConcat': WHATEVER THE INPUT: true; the input reads as it did. -/
def fnFramesConcatSpec : ChangeSpec := { name := "fnFramesConcat", fn := fun _ => fun
  | [d1, d2] => { results := [.lit (.bool true)], args := [d1, d2] }
  | _ => none }
def fnFramesConcatRow : OpenClaim := { program := "ytifohfclgonhfaa", sum := "7bd3b054279725ee86dd047cfa9444e8f50abe9d501c5708a2e628a3ccbaf23e", func := "loop.example/multipathtransport/laws.FnFramesConcat", spec := "fnFramesConcat", unfollowed := true, recurses := true, apart := false }
def FnFramesConcatSaid : Prop := fnFramesConcatRow.holds Try.pinned (OpenSpec.ofChange fnFramesConcatSpec)

/-- ITS FALSE NEIGHBOUR: 'it returns false'. Refute it at one input. -/
def fnFramesConcatWrong : ChangeSpec := { name := "fnFramesConcat", fn := fun _ => fun
  | [d1, d2] => { results := [.lit (.bool false)], args := [d1, d2] }
  | _ => none }
def FnFramesConcatWrongFalsely : Prop := fnFramesConcatRow.holds Try.pinned (OpenSpec.ofChange fnFramesConcatWrong)

/-- 'laws.FnFramesParts': WHATEVER THE INPUT: true; the input reads as it did. -/
def fnFramesPartsSpec : ChangeSpec := { name := "fnFramesParts", fn := fun _ => fun
  | [d] => { results := [.lit (.bool true)], args := [d] }
  | _ => none }
def fnFramesPartsRow : OpenClaim := { program := "ytifohfclgonhfaa", sum := "7bd3b054279725ee86dd047cfa9444e8f50abe9d501c5708a2e628a3ccbaf23e", func := "loop.example/multipathtransport/laws.FnFramesParts", spec := "fnFramesParts", inPlace := ["internal/abi.NoEscape"], unfollowed := true, recurses := true, apart := false }
def FnFramesPartsSaid : Prop := fnFramesPartsRow.holds Try.pinned (OpenSpec.ofChange fnFramesPartsSpec)

/-- ITS FALSE NEIGHBOUR: 'it returns false'. Refute it at one input. -/
def fnFramesPartsWrong : ChangeSpec := { name := "fnFramesParts", fn := fun _ => fun
  | [d] => { results := [.lit (.bool false)], args := [d] }
  | _ => none }
def FnFramesPartsWrongFalsely : Prop := fnFramesPartsRow.holds Try.pinned (OpenSpec.ofChange fnFramesPartsWrong)

/-- 'laws.FnFrameEliciting': WHATEVER THE INPUT: true; the input reads as it did. -/
def fnFrameElicitingSpec : ChangeSpec := { name := "fnFrameEliciting", fn := fun _ => fun
  | [d] => { results := [.lit (.bool true)], args := [d] }
  | _ => none }
def fnFrameElicitingRow : OpenClaim := { program := "ytifohfclgonhfaa", sum := "7bd3b054279725ee86dd047cfa9444e8f50abe9d501c5708a2e628a3ccbaf23e", func := "loop.example/multipathtransport/laws.FnFrameEliciting", spec := "fnFrameEliciting", unfollowed := true, recurses := true, apart := false }
def FnFrameElicitingSaid : Prop := fnFrameElicitingRow.holds Try.pinned (OpenSpec.ofChange fnFrameElicitingSpec)

/-- ITS FALSE NEIGHBOUR: 'it returns false'. Refute it at one input. -/
def fnFrameElicitingWrong : ChangeSpec := { name := "fnFrameEliciting", fn := fun _ => fun
  | [d] => { results := [.lit (.bool false)], args := [d] }
  | _ => none }
def FnFrameElicitingWrongFalsely : Prop := fnFrameElicitingRow.holds Try.pinned (OpenSpec.ofChange fnFrameElicitingWrong)

/-- 'laws.FnFrameDistinct': WHATEVER THE INPUT: true; the input reads as it did. -/
def fnFrameDistinctSpec : ChangeSpec := { name := "fnFrameDistinct", fn := fun _ => fun
  | [d1, d2] => { results := [.lit (.bool true)], args := [d1, d2] }
  | _ => none }
def fnFrameDistinctRow : OpenClaim := { program := "ytifohfclgonhfaa", sum := "7bd3b054279725ee86dd047cfa9444e8f50abe9d501c5708a2e628a3ccbaf23e", func := "loop.example/multipathtransport/laws.FnFrameDistinct", spec := "fnFrameDistinct", inPlace := ["internal/abi.NoEscape"], unfollowed := true, recurses := true, apart := false }
def FnFrameDistinctSaid : Prop := fnFrameDistinctRow.holds Try.pinned (OpenSpec.ofChange fnFrameDistinctSpec)

/-- ITS FALSE NEIGHBOUR: 'it returns false'. Refute it at one input. -/
def fnFrameDistinctWrong : ChangeSpec := { name := "fnFrameDistinct", fn := fun _ => fun
  | [d1, d2] => { results := [.lit (.bool false)], args := [d1, d2] }
  | _ => none }
def FnFrameDistinctWrongFalsely : Prop := fnFrameDistinctRow.holds Try.pinned (OpenSpec.ofChange fnFrameDistinctWrong)

/-- 'laws.FnFrameAck': WHATEVER THE INPUT: true; the input reads as it did. -/
def fnFrameAckSpec : ChangeSpec := { name := "fnFrameAck", fn := fun _ => fun
  | [d1, d2] => { results := [.lit (.bool true)], args := [d1, d2] }
  | _ => none }
def fnFrameAckRow : OpenClaim := { program := "ytifohfclgonhfaa", sum := "7bd3b054279725ee86dd047cfa9444e8f50abe9d501c5708a2e628a3ccbaf23e", func := "loop.example/multipathtransport/laws.FnFrameAck", spec := "fnFrameAck", inPlace := ["internal/abi.NoEscape"], unfollowed := true, recurses := true, apart := false }
def FnFrameAckSaid : Prop := fnFrameAckRow.holds Try.pinned (OpenSpec.ofChange fnFrameAckSpec)

/-- ITS FALSE NEIGHBOUR: 'it returns false'. Refute it at one input. -/
def fnFrameAckWrong : ChangeSpec := { name := "fnFrameAck", fn := fun _ => fun
  | [d1, d2] => { results := [.lit (.bool false)], args := [d1, d2] }
  | _ => none }
def FnFrameAckWrongFalsely : Prop := fnFrameAckRow.holds Try.pinned (OpenSpec.ofChange fnFrameAckWrong)

/-- 'laws.FnFrameStream': WHATEVER THE INPUT: true; the input reads as it did. -/
def fnFrameStreamSpec : ChangeSpec := { name := "fnFrameStream", fn := fun _ => fun
  | [d1, d2] => { results := [.lit (.bool true)], args := [d1, d2] }
  | _ => none }
def fnFrameStreamRow : OpenClaim := { program := "ytifohfclgonhfaa", sum := "7bd3b054279725ee86dd047cfa9444e8f50abe9d501c5708a2e628a3ccbaf23e", func := "loop.example/multipathtransport/laws.FnFrameStream", spec := "fnFrameStream", unfollowed := true, recurses := true, apart := false }
def FnFrameStreamSaid : Prop := fnFrameStreamRow.holds Try.pinned (OpenSpec.ofChange fnFrameStreamSpec)

/-- ITS FALSE NEIGHBOUR: 'it returns false'. Refute it at one input. -/
def fnFrameStreamWrong : ChangeSpec := { name := "fnFrameStream", fn := fun _ => fun
  | [d1, d2] => { results := [.lit (.bool false)], args := [d1, d2] }
  | _ => none }
def FnFrameStreamWrongFalsely : Prop := fnFrameStreamRow.holds Try.pinned (OpenSpec.ofChange fnFrameStreamWrong)

/- THE SECOND FORM. 'bulk': how many values and letters a reading holds, each counted each time it is reached (what is shared counts as often as it is met; a slice's spare places count too). A statement '..UptoSaid' is the law's where the arguments, and the package variables that the reading takes, are together of bulk at most 1048576: NARROWER than '..Said'. Prove '..Said' where nothing that the law and all that it calls make is longer than what came in: it says more and counts as full. Else prove '..UptoSaid'. A law counts once. -/
mutual
def uptoBulk {H : Type} : DataW H → Nat
  | .lit (.string bytes) => bytes.length + 1
  | .lit _ => 1
  | .nil => 1
  | .ptr d => uptoBulk d + 1
  | .slice elems spare => uptoBulkAll elems + uptoBulkAll spare + 1
  | .agg parts => uptoBulkAll parts + 1
  | .iface _ d => uptoBulk d + 1
  | .map entries => uptoBulkEntries entries + 1
  | .held _ => 1
def uptoBulkAll {H : Type} : List (DataW H) → Nat
  | [] => 0
  | d :: r => uptoBulk d + uptoBulkAll r
def uptoBulkEntries {H : Type} : List (Lit × DataW H) → Nat
  | [] => 0
  | x :: r => uptoBulkEntry x + uptoBulkEntries r
def uptoBulkEntry {H : Type} : Lit × DataW H → Nat
  | (.string bytes, d) => bytes.length + uptoBulk d + 1
  | (_, d) => uptoBulk d + 1
 end
def uptoSmall : (H : Type) → List (DataW H) → Bool := fun _ ds => decide (uptoBulkAll ds ≤ 1048576)
def OpenSpec.upto (s : _root_.Go.ChangeSpec) : _root_.Go.OpenSpec := { _root_.Go.OpenSpec.ofChange s with cond := some uptoSmall }

/-- 'laws.FnFrameRoundTrip', WHERE WHAT IT READS IS OF BULK AT MOST 1048576: true; the input reads as it did. -/
def fnFrameRoundTripUptoRow : OpenClaim := { program := "ytifohfclgonhfaa", sum := "7bd3b054279725ee86dd047cfa9444e8f50abe9d501c5708a2e628a3ccbaf23e", func := "loop.example/multipathtransport/laws.FnFrameRoundTrip", spec := "fnFrameRoundTrip", inPlace := ["internal/abi.NoEscape"], unfollowed := true, recurses := true, apart := false, narrowed := true }
def FnFrameRoundTripUptoSaid : Prop := fnFrameRoundTripUptoRow.holds Try.pinned (OpenSpec.upto fnFrameRoundTripSpec)

/-- 'laws.FnFrameOneWay', WHERE WHAT IT READS IS OF BULK AT MOST 1048576: true; the input reads as it did. -/
def fnFrameOneWayUptoRow : OpenClaim := { program := "ytifohfclgonhfaa", sum := "7bd3b054279725ee86dd047cfa9444e8f50abe9d501c5708a2e628a3ccbaf23e", func := "loop.example/multipathtransport/laws.FnFrameOneWay", spec := "fnFrameOneWay", inPlace := ["internal/abi.NoEscape"], unfollowed := true, recurses := true, apart := false, narrowed := true }
def FnFrameOneWayUptoSaid : Prop := fnFrameOneWayUptoRow.holds Try.pinned (OpenSpec.upto fnFrameOneWaySpec)

/-- 'laws.FnFramePrefix', WHERE WHAT IT READS IS OF BULK AT MOST 1048576: true; the input reads as it did. -/
def fnFramePrefixUptoRow : OpenClaim := { program := "ytifohfclgonhfaa", sum := "7bd3b054279725ee86dd047cfa9444e8f50abe9d501c5708a2e628a3ccbaf23e", func := "loop.example/multipathtransport/laws.FnFramePrefix", spec := "fnFramePrefix", inPlace := ["internal/abi.NoEscape"], unfollowed := true, recurses := true, apart := false, narrowed := true }
def FnFramePrefixUptoSaid : Prop := fnFramePrefixUptoRow.holds Try.pinned (OpenSpec.upto fnFramePrefixSpec)

/-- 'laws.FnFrameValid', WHERE WHAT IT READS IS OF BULK AT MOST 1048576: true; the input reads as it did. -/
def fnFrameValidUptoRow : OpenClaim := { program := "ytifohfclgonhfaa", sum := "7bd3b054279725ee86dd047cfa9444e8f50abe9d501c5708a2e628a3ccbaf23e", func := "loop.example/multipathtransport/laws.FnFrameValid", spec := "fnFrameValid", inPlace := ["internal/abi.NoEscape"], unfollowed := true, recurses := true, apart := false, narrowed := true }
def FnFrameValidUptoSaid : Prop := fnFrameValidUptoRow.holds Try.pinned (OpenSpec.upto fnFrameValidSpec)

/-- 'laws.FnFramesRoundTrip', WHERE WHAT IT READS IS OF BULK AT MOST 1048576: true; the input reads as it did. -/
def fnFramesRoundTripUptoRow : OpenClaim := { program := "ytifohfclgonhfaa", sum := "7bd3b054279725ee86dd047cfa9444e8f50abe9d501c5708a2e628a3ccbaf23e", func := "loop.example/multipathtransport/laws.FnFramesRoundTrip", spec := "fnFramesRoundTrip", inPlace := ["internal/abi.NoEscape"], unfollowed := true, recurses := true, apart := false, narrowed := true }
def FnFramesRoundTripUptoSaid : Prop := fnFramesRoundTripUptoRow.holds Try.pinned (OpenSpec.upto fnFramesRoundTripSpec)

/-- 'laws.FnFramesOneWay', WHERE WHAT IT READS IS OF BULK AT MOST 1048576: true; the input reads as it did. -/
def fnFramesOneWayUptoRow : OpenClaim := { program := "ytifohfclgonhfaa", sum := "7bd3b054279725ee86dd047cfa9444e8f50abe9d501c5708a2e628a3ccbaf23e", func := "loop.example/multipathtransport/laws.FnFramesOneWay", spec := "fnFramesOneWay", inPlace := ["internal/abi.NoEscape"], unfollowed := true, recurses := true, apart := false, narrowed := true }
def FnFramesOneWayUptoSaid : Prop := fnFramesOneWayUptoRow.holds Try.pinned (OpenSpec.upto fnFramesOneWaySpec)

/-- 'laws.FnFramesConcat', WHERE WHAT IT READS IS OF BULK AT MOST 1048576: true; the input reads as it did. -/
def fnFramesConcatUptoRow : OpenClaim := { program := "ytifohfclgonhfaa", sum := "7bd3b054279725ee86dd047cfa9444e8f50abe9d501c5708a2e628a3ccbaf23e", func := "loop.example/multipathtransport/laws.FnFramesConcat", spec := "fnFramesConcat", unfollowed := true, recurses := true, apart := false, narrowed := true }
def FnFramesConcatUptoSaid : Prop := fnFramesConcatUptoRow.holds Try.pinned (OpenSpec.upto fnFramesConcatSpec)

/-- 'laws.FnFramesParts', WHERE WHAT IT READS IS OF BULK AT MOST 1048576: true; the input reads as it did. -/
def fnFramesPartsUptoRow : OpenClaim := { program := "ytifohfclgonhfaa", sum := "7bd3b054279725ee86dd047cfa9444e8f50abe9d501c5708a2e628a3ccbaf23e", func := "loop.example/multipathtransport/laws.FnFramesParts", spec := "fnFramesParts", inPlace := ["internal/abi.NoEscape"], unfollowed := true, recurses := true, apart := false, narrowed := true }
def FnFramesPartsUptoSaid : Prop := fnFramesPartsUptoRow.holds Try.pinned (OpenSpec.upto fnFramesPartsSpec)

/-- 'laws.FnFrameEliciting', WHERE WHAT IT READS IS OF BULK AT MOST 1048576: true; the input reads as it did. -/
def fnFrameElicitingUptoRow : OpenClaim := { program := "ytifohfclgonhfaa", sum := "7bd3b054279725ee86dd047cfa9444e8f50abe9d501c5708a2e628a3ccbaf23e", func := "loop.example/multipathtransport/laws.FnFrameEliciting", spec := "fnFrameEliciting", unfollowed := true, recurses := true, apart := false, narrowed := true }
def FnFrameElicitingUptoSaid : Prop := fnFrameElicitingUptoRow.holds Try.pinned (OpenSpec.upto fnFrameElicitingSpec)

/-- 'laws.FnFrameDistinct', WHERE WHAT IT READS IS OF BULK AT MOST 1048576: true; the input reads as it did. -/
def fnFrameDistinctUptoRow : OpenClaim := { program := "ytifohfclgonhfaa", sum := "7bd3b054279725ee86dd047cfa9444e8f50abe9d501c5708a2e628a3ccbaf23e", func := "loop.example/multipathtransport/laws.FnFrameDistinct", spec := "fnFrameDistinct", inPlace := ["internal/abi.NoEscape"], unfollowed := true, recurses := true, apart := false, narrowed := true }
def FnFrameDistinctUptoSaid : Prop := fnFrameDistinctUptoRow.holds Try.pinned (OpenSpec.upto fnFrameDistinctSpec)

/-- 'laws.FnFrameAck', WHERE WHAT IT READS IS OF BULK AT MOST 1048576: true; the input reads as it did. -/
def fnFrameAckUptoRow : OpenClaim := { program := "ytifohfclgonhfaa", sum := "7bd3b054279725ee86dd047cfa9444e8f50abe9d501c5708a2e628a3ccbaf23e", func := "loop.example/multipathtransport/laws.FnFrameAck", spec := "fnFrameAck", inPlace := ["internal/abi.NoEscape"], unfollowed := true, recurses := true, apart := false, narrowed := true }
def FnFrameAckUptoSaid : Prop := fnFrameAckUptoRow.holds Try.pinned (OpenSpec.upto fnFrameAckSpec)

/-- 'laws.FnFrameStream', WHERE WHAT IT READS IS OF BULK AT MOST 1048576: true; the input reads as it did. -/
def fnFrameStreamUptoRow : OpenClaim := { program := "ytifohfclgonhfaa", sum := "7bd3b054279725ee86dd047cfa9444e8f50abe9d501c5708a2e628a3ccbaf23e", func := "loop.example/multipathtransport/laws.FnFrameStream", spec := "fnFrameStream", unfollowed := true, recurses := true, apart := false, narrowed := true }
def FnFrameStreamUptoSaid : Prop := fnFrameStreamUptoRow.holds Try.pinned (OpenSpec.upto fnFrameStreamSpec)

end Rows
end Go.Proofs.Ytifohfclgonhfaa
