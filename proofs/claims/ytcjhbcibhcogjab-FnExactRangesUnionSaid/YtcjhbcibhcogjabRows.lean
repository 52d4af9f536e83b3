/-
  No cell of these rows narrows 'for every input' (looked for: loops, veiled, ifaces, maps, wideKeys, modest, calm, conditions, laid).
  DERIVED. THE GIVEN ROWS OF THIS SEAT. 8 by the template 'for every input the law returns true; each argument reads behind the call as it read before'; 0 by the template 'total and deterministic' (their statements: YtcjhbcibhcogjabTotals.lean).
  GIVEN WITH THE SEED: the statements are not yours to turn. If you find one false, say at which input.
  Laid BY PROGRAM, IN A SANDBOX (cutbox-rows.mjs): the forced cells as the released guide's own fill.sh prints them over the translation 9c7dee6a699fc5eb… (all of the seat's roots in one cut). By AI agents, Wed Nov 11 2026. No macro, syntax, notation, axiom, sorry.
-/
import Derived.Test.YtcjhbcibhcogjabChecked
import GoSem.Claim
import GoSem.ClaimJoined
import GoSem.ClaimMapViews
import Derived.JoinedTies
import Derived.KernelRfl
namespace Go.Proofs.Ytcjhbcibhcogjab
/- THE CELL 'sum', in the pinned program and in every row, IS THE sha256 OF THE DUMP (.gsa) THAT YtcjhbcibhcogjabProg.lean LOADS. Nothing in Lean hashes anything: it is a label: what it is worth is what the hold of that sum in a sandbox is worth. -/
noncomputable def Try.pinned : Pinned := { name := "ytcjhbcibhcogjab", sum := "9c7dee6a699fc5eb36ee15034c1ed9e963736a98b940175ab2eec940fcd86dd9", checked := Try.checked }
namespace Rows
def none {H : Type} : Left H := { results := [], args := [] }

/-- 'laws.FnRangesFull': WHATEVER THE INPUT: true; the input reads as it did. -/
def fnRangesFullSpec : ChangeSpec := { name := "fnRangesFull", fn := fun _ => fun
  | [d] => { results := [.lit (.bool true)], args := [d] }
  | _ => none }
def fnRangesFullRow : OpenClaim := { program := "ytcjhbcibhcogjab", sum := "9c7dee6a699fc5eb36ee15034c1ed9e963736a98b940175ab2eec940fcd86dd9", func := "loop.example/multipathtransport/laws.FnRangesFull", spec := "fnRangesFull", unfollowed := true, recurses := true, apart := false }
def FnRangesFullSaid : Prop := fnRangesFullRow.holds Try.pinned (OpenSpec.ofChange fnRangesFullSpec)

/-- ITS FALSE NEIGHBOUR: 'it returns false'. Refute it at one input. -/
def fnRangesFullWrong : ChangeSpec := { name := "fnRangesFull", fn := fun _ => fun
  | [d] => { results := [.lit (.bool false)], args := [d] }
  | _ => none }
def FnRangesFullWrongFalsely : Prop := fnRangesFullRow.holds Try.pinned (OpenSpec.ofChange fnRangesFullWrong)

/-- 'laws.FnExactRangesValid': WHATEVER THE INPUT: true; the input reads as it did. -/
def fnExactRangesValidSpec : ChangeSpec := { name := "fnExactRangesValid", fn := fun _ => fun
  | [d] => { results := [.lit (.bool true)], args := [d] }
  | _ => none }
def fnExactRangesValidRow : OpenClaim := { program := "ytcjhbcibhcogjab", sum := "9c7dee6a699fc5eb36ee15034c1ed9e963736a98b940175ab2eec940fcd86dd9", func := "loop.example/multipathtransport/laws.FnExactRangesValid", spec := "fnExactRangesValid", apart := false }
def FnExactRangesValidSaid : Prop := fnExactRangesValidRow.holds Try.pinned (OpenSpec.ofChange fnExactRangesValidSpec)

/-- ITS FALSE NEIGHBOUR: 'it returns false'. Refute it at one input. -/
def fnExactRangesValidWrong : ChangeSpec := { name := "fnExactRangesValid", fn := fun _ => fun
  | [d] => { results := [.lit (.bool false)], args := [d] }
  | _ => none }
def FnExactRangesValidWrongFalsely : Prop := fnExactRangesValidRow.holds Try.pinned (OpenSpec.ofChange fnExactRangesValidWrong)

/-- 'laws.FnExactRangesHas': WHATEVER THE INPUT: true; the input reads as it did. -/
def fnExactRangesHasSpec : ChangeSpec := { name := "fnExactRangesHas", fn := fun _ => fun
  | [d1, d2] => { results := [.lit (.bool true)], args := [d1, d2] }
  | _ => none }
def fnExactRangesHasRow : OpenClaim := { program := "ytcjhbcibhcogjab", sum := "9c7dee6a699fc5eb36ee15034c1ed9e963736a98b940175ab2eec940fcd86dd9", func := "loop.example/multipathtransport/laws.FnExactRangesHas", spec := "fnExactRangesHas", unfollowed := true, recurses := true, apart := false }
def FnExactRangesHasSaid : Prop := fnExactRangesHasRow.holds Try.pinned (OpenSpec.ofChange fnExactRangesHasSpec)

/-- ITS FALSE NEIGHBOUR: 'it returns false'. Refute it at one input. -/
def fnExactRangesHasWrong : ChangeSpec := { name := "fnExactRangesHas", fn := fun _ => fun
  | [d1, d2] => { results := [.lit (.bool false)], args := [d1, d2] }
  | _ => none }
def FnExactRangesHasWrongFalsely : Prop := fnExactRangesHasRow.holds Try.pinned (OpenSpec.ofChange fnExactRangesHasWrong)

/-- 'laws.FnExactRangesAdd': WHATEVER THE INPUT: true; the input reads as it did. -/
def fnExactRangesAddSpec : ChangeSpec := { name := "fnExactRangesAdd", fn := fun _ => fun
  | [d1, d2, d3] => { results := [.lit (.bool true)], args := [d1, d2, d3] }
  | _ => none }
def fnExactRangesAddRow : OpenClaim := { program := "ytcjhbcibhcogjab", sum := "9c7dee6a699fc5eb36ee15034c1ed9e963736a98b940175ab2eec940fcd86dd9", func := "loop.example/multipathtransport/laws.FnExactRangesAdd", spec := "fnExactRangesAdd", unfollowed := true, recurses := true, apart := false }
def FnExactRangesAddSaid : Prop := fnExactRangesAddRow.holds Try.pinned (OpenSpec.ofChange fnExactRangesAddSpec)

/-- ITS FALSE NEIGHBOUR: 'it returns false'. Refute it at one input. -/
def fnExactRangesAddWrong : ChangeSpec := { name := "fnExactRangesAdd", fn := fun _ => fun
  | [d1, d2, d3] => { results := [.lit (.bool false)], args := [d1, d2, d3] }
  | _ => none }
def FnExactRangesAddWrongFalsely : Prop := fnExactRangesAddRow.holds Try.pinned (OpenSpec.ofChange fnExactRangesAddWrong)

/-- 'laws.FnExactRangesRemove': WHATEVER THE INPUT: true; the input reads as it did. -/
def fnExactRangesRemoveSpec : ChangeSpec := { name := "fnExactRangesRemove", fn := fun _ => fun
  | [d1, d2, d3] => { results := [.lit (.bool true)], args := [d1, d2, d3] }
  | _ => none }
def fnExactRangesRemoveRow : OpenClaim := { program := "ytcjhbcibhcogjab", sum := "9c7dee6a699fc5eb36ee15034c1ed9e963736a98b940175ab2eec940fcd86dd9", func := "loop.example/multipathtransport/laws.FnExactRangesRemove", spec := "fnExactRangesRemove", apart := false }
def FnExactRangesRemoveSaid : Prop := fnExactRangesRemoveRow.holds Try.pinned (OpenSpec.ofChange fnExactRangesRemoveSpec)

/-- ITS FALSE NEIGHBOUR: 'it returns false'. Refute it at one input. -/
def fnExactRangesRemoveWrong : ChangeSpec := { name := "fnExactRangesRemove", fn := fun _ => fun
  | [d1, d2, d3] => { results := [.lit (.bool false)], args := [d1, d2, d3] }
  | _ => none }
def FnExactRangesRemoveWrongFalsely : Prop := fnExactRangesRemoveRow.holds Try.pinned (OpenSpec.ofChange fnExactRangesRemoveWrong)

/-- 'laws.FnExactRangesUnion': WHATEVER THE INPUT: true; the input reads as it did. -/
def fnExactRangesUnionSpec : ChangeSpec := { name := "fnExactRangesUnion", fn := fun _ => fun
  | [d1, d2] => { results := [.lit (.bool true)], args := [d1, d2] }
  | _ => none }
def fnExactRangesUnionRow : OpenClaim := { program := "ytcjhbcibhcogjab", sum := "9c7dee6a699fc5eb36ee15034c1ed9e963736a98b940175ab2eec940fcd86dd9", func := "loop.example/multipathtransport/laws.FnExactRangesUnion", spec := "fnExactRangesUnion", unfollowed := true, recurses := true, apart := false }
def FnExactRangesUnionSaid : Prop := fnExactRangesUnionRow.holds Try.pinned (OpenSpec.ofChange fnExactRangesUnionSpec)

/-- ITS FALSE NEIGHBOUR: 'it returns false'. Refute it at one input. -/
def fnExactRangesUnionWrong : ChangeSpec := { name := "fnExactRangesUnion", fn := fun _ => fun
  | [d1, d2] => { results := [.lit (.bool false)], args := [d1, d2] }
  | _ => none }
def FnExactRangesUnionWrongFalsely : Prop := fnExactRangesUnionRow.holds Try.pinned (OpenSpec.ofChange fnExactRangesUnionWrong)

/-- 'laws.FnExactRangesGaps': WHATEVER THE INPUT: true; the input reads as it did. -/
def fnExactRangesGapsSpec : ChangeSpec := { name := "fnExactRangesGaps", fn := fun _ => fun
  | [d] => { results := [.lit (.bool true)], args := [d] }
  | _ => none }
def fnExactRangesGapsRow : OpenClaim := { program := "ytcjhbcibhcogjab", sum := "9c7dee6a699fc5eb36ee15034c1ed9e963736a98b940175ab2eec940fcd86dd9", func := "loop.example/multipathtransport/laws.FnExactRangesGaps", spec := "fnExactRangesGaps", unfollowed := true, recurses := true, apart := false }
def FnExactRangesGapsSaid : Prop := fnExactRangesGapsRow.holds Try.pinned (OpenSpec.ofChange fnExactRangesGapsSpec)

/-- ITS FALSE NEIGHBOUR: 'it returns false'. Refute it at one input. -/
def fnExactRangesGapsWrong : ChangeSpec := { name := "fnExactRangesGaps", fn := fun _ => fun
  | [d] => { results := [.lit (.bool false)], args := [d] }
  | _ => none }
def FnExactRangesGapsWrongFalsely : Prop := fnExactRangesGapsRow.holds Try.pinned (OpenSpec.ofChange fnExactRangesGapsWrong)

/-- 'laws.FnExactRangesCount': WHATEVER THE INPUT: true; the input reads as it did. -/
def fnExactRangesCountSpec : ChangeSpec := { name := "fnExactRangesCount", fn := fun _ => fun
  | [d] => { results := [.lit (.bool true)], args := [d] }
  | _ => none }
def fnExactRangesCountRow : OpenClaim := { program := "ytcjhbcibhcogjab", sum := "9c7dee6a699fc5eb36ee15034c1ed9e963736a98b940175ab2eec940fcd86dd9", func := "loop.example/multipathtransport/laws.FnExactRangesCount", spec := "fnExactRangesCount", unfollowed := true, recurses := true, apart := false }
def FnExactRangesCountSaid : Prop := fnExactRangesCountRow.holds Try.pinned (OpenSpec.ofChange fnExactRangesCountSpec)

/-- ITS FALSE NEIGHBOUR: 'it returns false'. Refute it at one input. -/
def fnExactRangesCountWrong : ChangeSpec := { name := "fnExactRangesCount", fn := fun _ => fun
  | [d] => { results := [.lit (.bool false)], args := [d] }
  | _ => none }
def FnExactRangesCountWrongFalsely : Prop := fnExactRangesCountRow.holds Try.pinned (OpenSpec.ofChange fnExactRangesCountWrong)

/- THE SECOND FORM. 'bulk': how many values and letters a reading holds, each counted each time it is reached (what is shared counts as often as it is met; a slice's spare places count too). A statement '..UptoSaid' is the law's where the arguments, and the package variables that the reading takes, are together of bulk at most 1048576: NARROWER than '..Said'. Prove '..Said' where nothing that the law and all that it calls make is longer than what came in: it says more and counts as full. Else prove '..UptoSaid'. A law counts once. -/
mutual
def uptoBulk {H : Type} : DataW H → Nat
  | .lit (.string bytes) => bytes.length + 1
  | .lit _ => 1
  | .nil => 1
  | .ptr d => uptoBulk d + 1
  | .slice elems spare => uptoBulkAll elems + uptoBulkAll spare + 1
  | .agg parts => uptoBulkAll parts + 1
  | .iface _ d => uptoBulk d + 1
  | .map entries => uptoBulkEntries entries + 1
  | .held _ => 1
def uptoBulkAll {H : Type} : List (DataW H) → Nat
  | [] => 0
  | d :: r => uptoBulk d + uptoBulkAll r
def uptoBulkEntries {H : Type} : List (Lit × DataW H) → Nat
  | [] => 0
  | x :: r => uptoBulkEntry x + uptoBulkEntries r
def uptoBulkEntry {H : Type} : Lit × DataW H → Nat
  | (.string bytes, d) => bytes.length + uptoBulk d + 1
  | (_, d) => uptoBulk d + 1
 end
def uptoSmall : (H : Type) → List (DataW H) → Bool := fun _ ds => decide (uptoBulkAll ds ≤ 1048576)
def OpenSpec.upto (s : _root_.Go.ChangeSpec) : _root_.Go.OpenSpec := { _root_.Go.OpenSpec.ofChange s with cond := some uptoSmall }

/-- 'laws.FnRangesFull', WHERE WHAT IT READS IS OF BULK AT MOST 1048576: true; the input reads as it did. -/
def fnRangesFullUptoRow : OpenClaim := { program := "ytcjhbcibhcogjab", sum := "9c7dee6a699fc5eb36ee15034c1ed9e963736a98b940175ab2eec940fcd86dd9", func := "loop.example/multipathtransport/laws.FnRangesFull", spec := "fnRangesFull", unfollowed := true, recurses := true, apart := false, narrowed := true }
def FnRangesFullUptoSaid : Prop := fnRangesFullUptoRow.holds Try.pinned (OpenSpec.upto fnRangesFullSpec)

/-- 'laws.FnExactRangesValid', WHERE WHAT IT READS IS OF BULK AT MOST 1048576: true; the input reads as it did. -/
def fnExactRangesValidUptoRow : OpenClaim := { program := "ytcjhbcibhcogjab", sum := "9c7dee6a699fc5eb36ee15034c1ed9e963736a98b940175ab2eec940fcd86dd9", func := "loop.example/multipathtransport/laws.FnExactRangesValid", spec := "fnExactRangesValid", apart := false, narrowed := true }
def FnExactRangesValidUptoSaid : Prop := fnExactRangesValidUptoRow.holds Try.pinned (OpenSpec.upto fnExactRangesValidSpec)

/-- 'laws.FnExactRangesHas', WHERE WHAT IT READS IS OF BULK AT MOST 1048576: true; the input reads as it did. -/
def fnExactRangesHasUptoRow : OpenClaim := { program := "ytcjhbcibhcogjab", sum := "9c7dee6a699fc5eb36ee15034c1ed9e963736a98b940175ab2eec940fcd86dd9", func := "loop.example/multipathtransport/laws.FnExactRangesHas", spec := "fnExactRangesHas", unfollowed := true, recurses := true, apart := false, narrowed := true }
def FnExactRangesHasUptoSaid : Prop := fnExactRangesHasUptoRow.holds Try.pinned (OpenSpec.upto fnExactRangesHasSpec)

/-- 'laws.FnExactRangesAdd', WHERE WHAT IT READS IS OF BULK AT MOST 1048576: true; the input reads as it did. -/
def fnExactRangesAddUptoRow : OpenClaim := { program := "ytcjhbcibhcogjab", sum := "9c7dee6a699fc5eb36ee15034c1ed9e963736a98b940175ab2eec940fcd86dd9", func := "loop.example/multipathtransport/laws.FnExactRangesAdd", spec := "fnExactRangesAdd", unfollowed := true, recurses := true, apart := false, narrowed := true }
def FnExactRangesAddUptoSaid : Prop := fnExactRangesAddUptoRow.holds Try.pinned (OpenSpec.upto fnExactRangesAddSpec)

/-- 'laws.FnExactRangesRemove', WHERE WHAT IT READS IS OF BULK AT MOST 1048576: true; the input reads as it did. -/
def fnExactRangesRemoveUptoRow : OpenClaim := { program := "ytcjhbcibhcogjab", sum := "9c7dee6a699fc5eb36ee15034c1ed9e963736a98b940175ab2eec940fcd86dd9", func := "loop.example/multipathtransport/laws.FnExactRangesRemove", spec := "fnExactRangesRemove", apart := false, narrowed := true }
def FnExactRangesRemoveUptoSaid : Prop := fnExactRangesRemoveUptoRow.holds Try.pinned (OpenSpec.upto fnExactRangesRemoveSpec)

/-- 'laws.FnExactRangesUnion', WHERE WHAT IT READS IS OF BULK AT MOST 1048576: true; the input reads as it did. -/
def fnExactRangesUnionUptoRow : OpenClaim := { program := "ytcjhbcibhcogjab", sum := "9c7dee6a699fc5eb36ee15034c1ed9e963736a98b940175ab2eec940fcd86dd9", func := "loop.example/multipathtransport/laws.FnExactRangesUnion", spec := "fnExactRangesUnion", unfollowed := true, recurses := true, apart := false, narrowed := true }
def FnExactRangesUnionUptoSaid : Prop := fnExactRangesUnionUptoRow.holds Try.pinned (OpenSpec.upto fnExactRangesUnionSpec)

/-- 'laws.FnExactRangesGaps', WHERE WHAT IT READS IS OF BULK AT MOST 1048576: true; the input reads as it did. -/
def fnExactRangesGapsUptoRow : OpenClaim := { program := "ytcjhbcibhcogjab", sum := "9c7dee6a699fc5eb36ee15034c1ed9e963736a98b940175ab2eec940fcd86dd9", func := "loop.example/multipathtransport/laws.FnExactRangesGaps", spec := "fnExactRangesGaps", unfollowed := true, recurses := true, apart := false, narrowed := true }
def FnExactRangesGapsUptoSaid : Prop := fnExactRangesGapsUptoRow.holds Try.pinned (OpenSpec.upto fnExactRangesGapsSpec)

/-- 'laws.FnExactRangesCount', WHERE WHAT IT READS IS OF BULK AT MOST 1048576: true; the input reads as it did. -/
def fnExactRangesCountUptoRow : OpenClaim := { program := "ytcjhbcibhcogjab", sum := "9c7dee6a699fc5eb36ee15034c1ed9e963736a98b940175ab2eec940fcd86dd9", func := "loop.example/multipathtransport/laws.FnExactRangesCount", spec := "fnExactRangesCount", unfollowed := true, recurses := true, apart := false, narrowed := true }
def FnExactRangesCountUptoSaid : Prop := fnExactRangesCountUptoRow.holds Try.pinned (OpenSpec.upto fnExactRangesCountSpec)

end Rows
end Go.Proofs.Ytcjhbcibhcogjab
