/-
  No cell of these rows narrows 'for every input' (looked for: loops, veiled, ifaces, maps, wideKeys, modest, calm, conditions, laid).
  DERIVED. THE GIVEN ROWS OF THIS SEAT. 12 by the template 'for every input the law returns true; each argument reads behind the call as it read before'; 0 by the template 'total and deterministic' (their statements: YtcjhbcibhcogjaaTotals.lean).
  GIVEN WITH THE SEED: the statements are not yours to turn. If you find one false, say at which input.
  Laid BY PROGRAM, IN A SANDBOX (cutbox-rows.mjs): the forced cells as the released guide's own fill.sh prints them over the translation c26bc16199ac72c6… (all of the seat's roots in one cut). By AI agents, Wed Nov 11 2026. No macro, syntax, notation, axiom, sorry.
-/
import Derived.Test.YtcjhbcibhcogjaaChecked
import GoSem.Claim
import GoSem.ClaimJoined
import GoSem.ClaimMapViews
import Derived.JoinedTies
import Derived.KernelRfl
namespace Go.Proofs.Ytcjhbcibhcogjaa
/- THE CELL 'sum', in the pinned program and in every row, IS THE sha256 OF THE DUMP (.gsa) THAT YtcjhbcibhcogjaaProg.lean LOADS. Nothing in Lean hashes anything: it is a label: what it is worth is what the hold of that sum in a sandbox is worth. -/
noncomputable def Try.pinned : Pinned := { name := "ytcjhbcibhcogjaa", sum := "c26bc16199ac72c68325750efc600e56b62a0948e9ef7eade56a524aef4c7c09", checked := Try.checked }
namespace Rows
def none {H : Type} : Left H := { results := [], args := [] }

/-- 'laws.FnRangesAdd': WHATEVER THE INPUT: true; the input reads as it did. -/
def fnRangesAddSpec : ChangeSpec := { name := "fnRangesAdd", fn := fun _ => fun
  | [d] => { results := [.lit (.bool true)], args := [d] }
  | _ => none }
def fnRangesAddRow : OpenClaim := { program := "ytcjhbcibhcogjaa", sum := "c26bc16199ac72c68325750efc600e56b62a0948e9ef7eade56a524aef4c7c09", func := "loop.example/multipathtransport/laws.FnRangesAdd", spec := "fnRangesAdd", unfollowed := true, recurses := true, apart := false }
def FnRangesAddSaid : Prop := fnRangesAddRow.holds Try.pinned (OpenSpec.ofChange fnRangesAddSpec)

/-- ITS FALSE NEIGHBOUR: 'it returns false'. Refute it at one input. -/
def fnRangesAddWrong : ChangeSpec := { name := "fnRangesAdd", fn := fun _ => fun
  | [d] => { results := [.lit (.bool false)], args := [d] }
  | _ => none }
def FnRangesAddWrongFalsely : Prop := fnRangesAddRow.holds Try.pinned (OpenSpec.ofChange fnRangesAddWrong)

/-- 'laws.FnRangesAddTwice': WHATEVER THE INPUT: true; the input reads as it did. -/
def fnRangesAddTwiceSpec : ChangeSpec := { name := "fnRangesAddTwice", fn := fun _ => fun
  | [d] => { results := [.lit (.bool true)], args := [d] }
  | _ => none }
def fnRangesAddTwiceRow : OpenClaim := { program := "ytcjhbcibhcogjaa", sum := "c26bc16199ac72c68325750efc600e56b62a0948e9ef7eade56a524aef4c7c09", func := "loop.example/multipathtransport/laws.FnRangesAddTwice", spec := "fnRangesAddTwice", unfollowed := true, recurses := true, apart := false }
def FnRangesAddTwiceSaid : Prop := fnRangesAddTwiceRow.holds Try.pinned (OpenSpec.ofChange fnRangesAddTwiceSpec)

/-- ITS FALSE NEIGHBOUR: 'it returns false'. Refute it at one input. -/
def fnRangesAddTwiceWrong : ChangeSpec := { name := "fnRangesAddTwice", fn := fun _ => fun
  | [d] => { results := [.lit (.bool false)], args := [d] }
  | _ => none }
def FnRangesAddTwiceWrongFalsely : Prop := fnRangesAddTwiceRow.holds Try.pinned (OpenSpec.ofChange fnRangesAddTwiceWrong)

/-- 'laws.FnRangesRemove': WHATEVER THE INPUT: true; the input reads as it did. -/
def fnRangesRemoveSpec : ChangeSpec := { name := "fnRangesRemove", fn := fun _ => fun
  | [d] => { results := [.lit (.bool true)], args := [d] }
  | _ => none }
def fnRangesRemoveRow : OpenClaim := { program := "ytcjhbcibhcogjaa", sum := "c26bc16199ac72c68325750efc600e56b62a0948e9ef7eade56a524aef4c7c09", func := "loop.example/multipathtransport/laws.FnRangesRemove", spec := "fnRangesRemove", unfollowed := true, recurses := true, apart := false }
def FnRangesRemoveSaid : Prop := fnRangesRemoveRow.holds Try.pinned (OpenSpec.ofChange fnRangesRemoveSpec)

/-- ITS FALSE NEIGHBOUR: 'it returns false'. Refute it at one input. -/
def fnRangesRemoveWrong : ChangeSpec := { name := "fnRangesRemove", fn := fun _ => fun
  | [d] => { results := [.lit (.bool false)], args := [d] }
  | _ => none }
def FnRangesRemoveWrongFalsely : Prop := fnRangesRemoveRow.holds Try.pinned (OpenSpec.ofChange fnRangesRemoveWrong)

/-- 'laws.FnRangesUndo': WHATEVER THE INPUT: true; the input reads as it did. -/
def fnRangesUndoSpec : ChangeSpec := { name := "fnRangesUndo", fn := fun _ => fun
  | [d] => { results := [.lit (.bool true)], args := [d] }
  | _ => none }
def fnRangesUndoRow : OpenClaim := { program := "ytcjhbcibhcogjaa", sum := "c26bc16199ac72c68325750efc600e56b62a0948e9ef7eade56a524aef4c7c09", func := "loop.example/multipathtransport/laws.FnRangesUndo", spec := "fnRangesUndo", unfollowed := true, recurses := true, apart := false }
def FnRangesUndoSaid : Prop := fnRangesUndoRow.holds Try.pinned (OpenSpec.ofChange fnRangesUndoSpec)

/-- ITS FALSE NEIGHBOUR: 'it returns false'. Refute it at one input. -/
def fnRangesUndoWrong : ChangeSpec := { name := "fnRangesUndo", fn := fun _ => fun
  | [d] => { results := [.lit (.bool false)], args := [d] }
  | _ => none }
def FnRangesUndoWrongFalsely : Prop := fnRangesUndoRow.holds Try.pinned (OpenSpec.ofChange fnRangesUndoWrong)

/-- 'laws.FnRangesUnion': WHATEVER THE INPUT: true; the input reads as it did. -/
def fnRangesUnionSpec : ChangeSpec := { name := "fnRangesUnion", fn := fun _ => fun
  | [d] => { results := [.lit (.bool true)], args := [d] }
  | _ => none }
def fnRangesUnionRow : OpenClaim := { program := "ytcjhbcibhcogjaa", sum := "c26bc16199ac72c68325750efc600e56b62a0948e9ef7eade56a524aef4c7c09", func := "loop.example/multipathtransport/laws.FnRangesUnion", spec := "fnRangesUnion", unfollowed := true, recurses := true, apart := false }
def FnRangesUnionSaid : Prop := fnRangesUnionRow.holds Try.pinned (OpenSpec.ofChange fnRangesUnionSpec)

/-- ITS FALSE NEIGHBOUR: 'it returns false'. Refute it at one input. -/
def fnRangesUnionWrong : ChangeSpec := { name := "fnRangesUnion", fn := fun _ => fun
  | [d] => { results := [.lit (.bool false)], args := [d] }
  | _ => none }
def FnRangesUnionWrongFalsely : Prop := fnRangesUnionRow.holds Try.pinned (OpenSpec.ofChange fnRangesUnionWrong)

/-- 'laws.FnRangesUnionOrder': WHATEVER THE INPUT: true; the input reads as it did. -/
def fnRangesUnionOrderSpec : ChangeSpec := { name := "fnRangesUnionOrder", fn := fun _ => fun
  | [d] => { results := [.lit (.bool true)], args := [d] }
  | _ => none }
def fnRangesUnionOrderRow : OpenClaim := { program := "ytcjhbcibhcogjaa", sum := "c26bc16199ac72c68325750efc600e56b62a0948e9ef7eade56a524aef4c7c09", func := "loop.example/multipathtransport/laws.FnRangesUnionOrder", spec := "fnRangesUnionOrder", unfollowed := true, recurses := true, apart := false }
def FnRangesUnionOrderSaid : Prop := fnRangesUnionOrderRow.holds Try.pinned (OpenSpec.ofChange fnRangesUnionOrderSpec)

/-- ITS FALSE NEIGHBOUR: 'it returns false'. Refute it at one input. -/
def fnRangesUnionOrderWrong : ChangeSpec := { name := "fnRangesUnionOrder", fn := fun _ => fun
  | [d] => { results := [.lit (.bool false)], args := [d] }
  | _ => none }
def FnRangesUnionOrderWrongFalsely : Prop := fnRangesUnionOrderRow.holds Try.pinned (OpenSpec.ofChange fnRangesUnionOrderWrong)

/-- 'laws.FnRangesGaps': WHATEVER THE INPUT: true; the input reads as it did. -/
def fnRangesGapsSpec : ChangeSpec := { name := "fnRangesGaps", fn := fun _ => fun
  | [d] => { results := [.lit (.bool true)], args := [d] }
  | _ => none }
def fnRangesGapsRow : OpenClaim := { program := "ytcjhbcibhcogjaa", sum := "c26bc16199ac72c68325750efc600e56b62a0948e9ef7eade56a524aef4c7c09", func := "loop.example/multipathtransport/laws.FnRangesGaps", spec := "fnRangesGaps", unfollowed := true, recurses := true, apart := false }
def FnRangesGapsSaid : Prop := fnRangesGapsRow.holds Try.pinned (OpenSpec.ofChange fnRangesGapsSpec)

/-- ITS FALSE NEIGHBOUR: 'it returns false'. Refute it at one input. -/
def fnRangesGapsWrong : ChangeSpec := { name := "fnRangesGaps", fn := fun _ => fun
  | [d] => { results := [.lit (.bool false)], args := [d] }
  | _ => none }
def FnRangesGapsWrongFalsely : Prop := fnRangesGapsRow.holds Try.pinned (OpenSpec.ofChange fnRangesGapsWrong)

/-- 'laws.FnRangesFill': WHATEVER THE INPUT: true; the input reads as it did. -/
def fnRangesFillSpec : ChangeSpec := { name := "fnRangesFill", fn := fun _ => fun
  | [d] => { results := [.lit (.bool true)], args := [d] }
  | _ => none }
def fnRangesFillRow : OpenClaim := { program := "ytcjhbcibhcogjaa", sum := "c26bc16199ac72c68325750efc600e56b62a0948e9ef7eade56a524aef4c7c09", func := "loop.example/multipathtransport/laws.FnRangesFill", spec := "fnRangesFill", unfollowed := true, recurses := true, apart := false }
def FnRangesFillSaid : Prop := fnRangesFillRow.holds Try.pinned (OpenSpec.ofChange fnRangesFillSpec)

/-- ITS FALSE NEIGHBOUR: 'it returns false'. Refute it at one input. -/
def fnRangesFillWrong : ChangeSpec := { name := "fnRangesFill", fn := fun _ => fun
  | [d] => { results := [.lit (.bool false)], args := [d] }
  | _ => none }
def FnRangesFillWrongFalsely : Prop := fnRangesFillRow.holds Try.pinned (OpenSpec.ofChange fnRangesFillWrong)

/-- 'laws.FnRangesCountAdd': WHATEVER THE INPUT: true; the input reads as it did. -/
def fnRangesCountAddSpec : ChangeSpec := { name := "fnRangesCountAdd", fn := fun _ => fun
  | [d1, d2] => { results := [.lit (.bool true)], args := [d1, d2] }
  | _ => none }
def fnRangesCountAddRow : OpenClaim := { program := "ytcjhbcibhcogjaa", sum := "c26bc16199ac72c68325750efc600e56b62a0948e9ef7eade56a524aef4c7c09", func := "loop.example/multipathtransport/laws.FnRangesCountAdd", spec := "fnRangesCountAdd", unfollowed := true, recurses := true, apart := false }
def FnRangesCountAddSaid : Prop := fnRangesCountAddRow.holds Try.pinned (OpenSpec.ofChange fnRangesCountAddSpec)

/-- ITS FALSE NEIGHBOUR: 'it returns false'. Refute it at one input. -/
def fnRangesCountAddWrong : ChangeSpec := { name := "fnRangesCountAdd", fn := fun _ => fun
  | [d1, d2] => { results := [.lit (.bool false)], args := [d1, d2] }
  | _ => none }
def FnRangesCountAddWrongFalsely : Prop := fnRangesCountAddRow.holds Try.pinned (OpenSpec.ofChange fnRangesCountAddWrong)

/-- 'laws.FnRangesCountRemove': WHATEVER THE INPUT: true; the input reads as it did. -/
def fnRangesCountRemoveSpec : ChangeSpec := { name := "fnRangesCountRemove", fn := fun _ => fun
  | [d] => { results := [.lit (.bool true)], args := [d] }
  | _ => none }
def fnRangesCountRemoveRow : OpenClaim := { program := "ytcjhbcibhcogjaa", sum := "c26bc16199ac72c68325750efc600e56b62a0948e9ef7eade56a524aef4c7c09", func := "loop.example/multipathtransport/laws.FnRangesCountRemove", spec := "fnRangesCountRemove", unfollowed := true, recurses := true, apart := false }
def FnRangesCountRemoveSaid : Prop := fnRangesCountRemoveRow.holds Try.pinned (OpenSpec.ofChange fnRangesCountRemoveSpec)

/-- ITS FALSE NEIGHBOUR: 'it returns false'. Refute it at one input. -/
def fnRangesCountRemoveWrong : ChangeSpec := { name := "fnRangesCountRemove", fn := fun _ => fun
  | [d] => { results := [.lit (.bool false)], args := [d] }
  | _ => none }
def FnRangesCountRemoveWrongFalsely : Prop := fnRangesCountRemoveRow.holds Try.pinned (OpenSpec.ofChange fnRangesCountRemoveWrong)

/-- 'laws.FnRangesCanonical': WHATEVER THE INPUT: true; the input reads as it did. -/
def fnRangesCanonicalSpec : ChangeSpec := { name := "fnRangesCanonical", fn := fun _ => fun
  | [d1, d2] => { results := [.lit (.bool true)], args := [d1, d2] }
  | _ => none }
def fnRangesCanonicalRow : OpenClaim := { program := "ytcjhbcibhcogjaa", sum := "c26bc16199ac72c68325750efc600e56b62a0948e9ef7eade56a524aef4c7c09", func := "loop.example/multipathtransport/laws.FnRangesCanonical", spec := "fnRangesCanonical", unfollowed := true, recurses := true, apart := false }
def FnRangesCanonicalSaid : Prop := fnRangesCanonicalRow.holds Try.pinned (OpenSpec.ofChange fnRangesCanonicalSpec)

/-- ITS FALSE NEIGHBOUR: 'it returns false'. Refute it at one input. -/
def fnRangesCanonicalWrong : ChangeSpec := { name := "fnRangesCanonical", fn := fun _ => fun
  | [d1, d2] => { results := [.lit (.bool false)], args := [d1, d2] }
  | _ => none }
def FnRangesCanonicalWrongFalsely : Prop := fnRangesCanonicalRow.holds Try.pinned (OpenSpec.ofChange fnRangesCanonicalWrong)

/-- 'laws.FnRangesPart': WHATEVER THE INPUT: true; the input reads as it did. -/
def fnRangesPartSpec : ChangeSpec := { name := "fnRangesPart", fn := fun _ => fun
  | [d1, d2] => { results := [.lit (.bool true)], args := [d1, d2] }
  | _ => none }
def fnRangesPartRow : OpenClaim := { program := "ytcjhbcibhcogjaa", sum := "c26bc16199ac72c68325750efc600e56b62a0948e9ef7eade56a524aef4c7c09", func := "loop.example/multipathtransport/laws.FnRangesPart", spec := "fnRangesPart", apart := false }
def FnRangesPartSaid : Prop := fnRangesPartRow.holds Try.pinned (OpenSpec.ofChange fnRangesPartSpec)

/-- ITS FALSE NEIGHBOUR: 'it returns false'. Refute it at one input. -/
def fnRangesPartWrong : ChangeSpec := { name := "fnRangesPart", fn := fun _ => fun
  | [d1, d2] => { results := [.lit (.bool false)], args := [d1, d2] }
  | _ => none }
def FnRangesPartWrongFalsely : Prop := fnRangesPartRow.holds Try.pinned (OpenSpec.ofChange fnRangesPartWrong)

/- THE SECOND FORM. 'bulk': how many values and letters a reading holds, each counted each time it is reached (what is shared counts as often as it is met; a slice's spare places count too). A statement '..UptoSaid' is the law's where the arguments, and the package variables that the reading takes, are together of bulk at most 1048576: NARROWER than '..Said'. Prove '..Said' where nothing that the law and all that it calls make is longer than what came in: it says more and counts as full. Else prove '..UptoSaid'. A law counts once. -/
mutual
def uptoBulk {H : Type} : DataW H → Nat
  | .lit (.string bytes) => bytes.length + 1
  | .lit _ => 1
  | .nil => 1
  | .ptr d => uptoBulk d + 1
  | .slice elems spare => uptoBulkAll elems + uptoBulkAll spare + 1
  | .agg parts => uptoBulkAll parts + 1
  | .iface _ d => uptoBulk d + 1
  | .map entries => uptoBulkEntries entries + 1
  | .held _ => 1
def uptoBulkAll {H : Type} : List (DataW H) → Nat
  | [] => 0
  | d :: r => uptoBulk d + uptoBulkAll r
def uptoBulkEntries {H : Type} : List (Lit × DataW H) → Nat
  | [] => 0
  | x :: r => uptoBulkEntry x + uptoBulkEntries r
def uptoBulkEntry {H : Type} : Lit × DataW H → Nat
  | (.string bytes, d) => bytes.length + uptoBulk d + 1
  | (_, d) => uptoBulk d + 1
 end
def uptoSmall : (H : Type) → List (DataW H) → Bool := fun _ ds => decide (uptoBulkAll ds ≤ 1048576)
def OpenSpec.upto (s : _root_.Go.ChangeSpec) : _root_.Go.OpenSpec := { _root_.Go.OpenSpec.ofChange s with cond := some uptoSmall }

/-- 'laws.FnRangesAdd', WHERE WHAT IT READS IS OF BULK AT MOST 1048576: true; the input reads as it did. -/
def fnRangesAddUptoRow : OpenClaim := { program := "ytcjhbcibhcogjaa", sum := "c26bc16199ac72c68325750efc600e56b62a0948e9ef7eade56a524aef4c7c09", func := "loop.example/multipathtransport/laws.FnRangesAdd", spec := "fnRangesAdd", unfollowed := true, recurses := true, apart := false, narrowed := true }
def FnRangesAddUptoSaid : Prop := fnRangesAddUptoRow.holds Try.pinned (OpenSpec.upto fnRangesAddSpec)

/-- 'laws.FnRangesAddTwice', WHERE WHAT IT READS IS OF BULK AT MOST 1048576: true; the input reads as it did. -/
def fnRangesAddTwiceUptoRow : OpenClaim := { program := "ytcjhbcibhcogjaa", sum := "c26bc16199ac72c68325750efc600e56b62a0948e9ef7eade56a524aef4c7c09", func := "loop.example/multipathtransport/laws.FnRangesAddTwice", spec := "fnRangesAddTwice", unfollowed := true, recurses := true, apart := false, narrowed := true }
def FnRangesAddTwiceUptoSaid : Prop := fnRangesAddTwiceUptoRow.holds Try.pinned (OpenSpec.upto fnRangesAddTwiceSpec)

/-- 'laws.FnRangesRemove', WHERE WHAT IT READS IS OF BULK AT MOST 1048576: true; the input reads as it did. -/
def fnRangesRemoveUptoRow : OpenClaim := { program := "ytcjhbcibhcogjaa", sum := "c26bc16199ac72c68325750efc600e56b62a0948e9ef7eade56a524aef4c7c09", func := "loop.example/multipathtransport/laws.FnRangesRemove", spec := "fnRangesRemove", unfollowed := true, recurses := true, apart := false, narrowed := true }
def FnRangesRemoveUptoSaid : Prop := fnRangesRemoveUptoRow.holds Try.pinned (OpenSpec.upto fnRangesRemoveSpec)

/-- 'laws.FnRangesUndo', WHERE WHAT IT READS IS OF BULK AT MOST 1048576: true; the input reads as it did. -/
def fnRangesUndoUptoRow : OpenClaim := { program := "ytcjhbcibhcogjaa", sum := "c26bc16199ac72c68325750efc600e56b62a0948e9ef7eade56a524aef4c7c09", func := "loop.example/multipathtransport/laws.FnRangesUndo", spec := "fnRangesUndo", unfollowed := true, recurses := true, apart := false, narrowed := true }
def FnRangesUndoUptoSaid : Prop := fnRangesUndoUptoRow.holds Try.pinned (OpenSpec.upto fnRangesUndoSpec)

/-- 'laws.FnRangesUnion', WHERE WHAT IT READS IS OF BULK AT MOST 1048576: true; the input reads as it did. -/
def fnRangesUnionUptoRow : OpenClaim := { program := "ytcjhbcibhcogjaa", sum := "c26bc16199ac72c68325750efc600e56b62a0948e9ef7eade56a524aef4c7c09", func := "loop.example/multipathtransport/laws.FnRangesUnion", spec := "fnRangesUnion", unfollowed := true, recurses := true, apart := false, narrowed := true }
def FnRangesUnionUptoSaid : Prop := fnRangesUnionUptoRow.holds Try.pinned (OpenSpec.upto fnRangesUnionSpec)

/-- 'laws.FnRangesUnionOrder', WHERE WHAT IT READS IS OF BULK AT MOST 1048576: true; the input reads as it did. -/
def fnRangesUnionOrderUptoRow : OpenClaim := { program := "ytcjhbcibhcogjaa", sum := "c26bc16199ac72c68325750efc600e56b62a0948e9ef7eade56a524aef4c7c09", func := "loop.example/multipathtransport/laws.FnRangesUnionOrder", spec := "fnRangesUnionOrder", unfollowed := true, recurses := true, apart := false, narrowed := true }
def FnRangesUnionOrderUptoSaid : Prop := fnRangesUnionOrderUptoRow.holds Try.pinned (OpenSpec.upto fnRangesUnionOrderSpec)

/-- 'laws.FnRangesGaps', WHERE WHAT IT READS IS OF BULK AT MOST 1048576: true; the input reads as it did. -/
def fnRangesGapsUptoRow : OpenClaim := { program := "ytcjhbcibhcogjaa", sum := "c26bc16199ac72c68325750efc600e56b62a0948e9ef7eade56a524aef4c7c09", func := "loop.example/multipathtransport/laws.FnRangesGaps", spec := "fnRangesGaps", unfollowed := true, recurses := true, apart := false, narrowed := true }
def FnRangesGapsUptoSaid : Prop := fnRangesGapsUptoRow.holds Try.pinned (OpenSpec.upto fnRangesGapsSpec)

/-- 'laws.FnRangesFill', WHERE WHAT IT READS IS OF BULK AT MOST 1048576: true; the input reads as it did. -/
def fnRangesFillUptoRow : OpenClaim := { program := "ytcjhbcibhcogjaa", sum := "c26bc16199ac72c68325750efc600e56b62a0948e9ef7eade56a524aef4c7c09", func := "loop.example/multipathtransport/laws.FnRangesFill", spec := "fnRangesFill", unfollowed := true, recurses := true, apart := false, narrowed := true }
def FnRangesFillUptoSaid : Prop := fnRangesFillUptoRow.holds Try.pinned (OpenSpec.upto fnRangesFillSpec)

/-- 'laws.FnRangesCountAdd', WHERE WHAT IT READS IS OF BULK AT MOST 1048576: true; the input reads as it did. -/
def fnRangesCountAddUptoRow : OpenClaim := { program := "ytcjhbcibhcogjaa", sum := "c26bc16199ac72c68325750efc600e56b62a0948e9ef7eade56a524aef4c7c09", func := "loop.example/multipathtransport/laws.FnRangesCountAdd", spec := "fnRangesCountAdd", unfollowed := true, recurses := true, apart := false, narrowed := true }
def FnRangesCountAddUptoSaid : Prop := fnRangesCountAddUptoRow.holds Try.pinned (OpenSpec.upto fnRangesCountAddSpec)

/-- 'laws.FnRangesCountRemove', WHERE WHAT IT READS IS OF BULK AT MOST 1048576: true; the input reads as it did. -/
def fnRangesCountRemoveUptoRow : OpenClaim := { program := "ytcjhbcibhcogjaa", sum := "c26bc16199ac72c68325750efc600e56b62a0948e9ef7eade56a524aef4c7c09", func := "loop.example/multipathtransport/laws.FnRangesCountRemove", spec := "fnRangesCountRemove", unfollowed := true, recurses := true, apart := false, narrowed := true }
def FnRangesCountRemoveUptoSaid : Prop := fnRangesCountRemoveUptoRow.holds Try.pinned (OpenSpec.upto fnRangesCountRemoveSpec)

/-- 'laws.FnRangesCanonical', WHERE WHAT IT READS IS OF BULK AT MOST 1048576: true; the input reads as it did. -/
def fnRangesCanonicalUptoRow : OpenClaim := { program := "ytcjhbcibhcogjaa", sum := "c26bc16199ac72c68325750efc600e56b62a0948e9ef7eade56a524aef4c7c09", func := "loop.example/multipathtransport/laws.FnRangesCanonical", spec := "fnRangesCanonical", unfollowed := true, recurses := true, apart := false, narrowed := true }
def FnRangesCanonicalUptoSaid : Prop := fnRangesCanonicalUptoRow.holds Try.pinned (OpenSpec.upto fnRangesCanonicalSpec)

/-- 'laws.FnRangesPart', WHERE WHAT IT READS IS OF BULK AT MOST 1048576: true; the input reads as it did. -/
def fnRangesPartUptoRow : OpenClaim := { program := "ytcjhbcibhcogjaa", sum := "c26bc16199ac72c68325750efc600e56b62a0948e9ef7eade56a524aef4c7c09", func := "loop.example/multipathtransport/laws.FnRangesPart", spec := "fnRangesPart", apart := false, narrowed := true }
def FnRangesPartUptoSaid : Prop := fnRangesPartUptoRow.holds Try.pinned (OpenSpec.upto fnRangesPartSpec)

end Rows
end Go.Proofs.Ytcjhbcibhcogjaa
