/-
  No cell of these rows narrows 'for every input' (looked for: loops, veiled, ifaces, maps, wideKeys, modest, calm, conditions, laid).
  DERIVED. THE GIVEN ROWS OF THIS SEAT. 5 by the template 'for every input the law returns true; each argument reads behind the call as it read before'; 0 by the template 'total and deterministic' (their statements: YtakfohcnclmkbabTotals.lean).
  GIVEN WITH THE SEED: the statements are not yours to turn. If you find one false, say at which input.
  Laid BY PROGRAM, IN A SANDBOX (cutbox-rows.mjs): the forced cells as the released guide's own fill.sh prints them over the translation be30869ed117958b… (all of the seat's roots in one cut). By AI agents, Wed Nov 11 2026. No macro, syntax, notation, axiom, sorry.
-/
import Derived.Test.YtakfohcnclmkbabChecked
import GoSem.Claim
import GoSem.ClaimJoined
import GoSem.ClaimMapViews
import Derived.JoinedTies
import Derived.KernelRfl
namespace Go.Proofs.Ytakfohcnclmkbab
/- THE CELL 'sum', in the pinned program and in every row, IS THE sha256 OF THE DUMP (.gsa) THAT YtakfohcnclmkbabProg.lean LOADS. Nothing in Lean hashes anything: it is a label: what it is worth is what the hold of that sum in a sandbox is worth. -/
noncomputable def Try.pinned : Pinned := { name := "ytakfohcnclmkbab", sum := "be30869ed117958b56a6c7f75ab1b3a412dbe914dd5fa0fbeaf72088f11517ed", checked := Try.checked }
namespace Rows
def none {H : Type} : Left H := { results := [], args := [] }

/-- 'laws.FnExactBoxesValid': WHATEVER THE INPUT: true; the input reads as it did. -/
def fnExactBoxesValidSpec : ChangeSpec := { name := "fnExactBoxesValid", fn := fun _ => fun
  | [d] => { results := [.lit (.bool true)], args := [d] }
  | _ => none }
def fnExactBoxesValidRow : OpenClaim := { program := "ytakfohcnclmkbab", sum := "be30869ed117958b56a6c7f75ab1b3a412dbe914dd5fa0fbeaf72088f11517ed", func := "loop.example/multipathtransport/laws.FnExactBoxesValid", spec := "fnExactBoxesValid", unfollowed := true, recurses := true, apart := false }
def FnExactBoxesValidSaid : Prop := fnExactBoxesValidRow.holds Try.pinned (OpenSpec.ofChange fnExactBoxesValidSpec)

/-- ITS FALSE NEIGHBOUR: 'it returns false'. Refute it at one input. -/
def fnExactBoxesValidWrong : ChangeSpec := { name := "fnExactBoxesValid", fn := fun _ => fun
  | [d] => { results := [.lit (.bool false)], args := [d] }
  | _ => none }
def FnExactBoxesValidWrongFalsely : Prop := fnExactBoxesValidRow.holds Try.pinned (OpenSpec.ofChange fnExactBoxesValidWrong)

/-- 'laws.FnExactDerive': WHATEVER THE INPUT: true; the input reads as it did. -/
def fnExactDeriveSpec : ChangeSpec := { name := "fnExactDerive", fn := fun _ => fun
  | [d1, d2] => { results := [.lit (.bool true)], args := [d1, d2] }
  | _ => none }
def fnExactDeriveRow : OpenClaim := { program := "ytakfohcnclmkbab", sum := "be30869ed117958b56a6c7f75ab1b3a412dbe914dd5fa0fbeaf72088f11517ed", func := "loop.example/multipathtransport/laws.FnExactDerive", spec := "fnExactDerive", unfollowed := true, recurses := true, apart := false }
def FnExactDeriveSaid : Prop := fnExactDeriveRow.holds Try.pinned (OpenSpec.ofChange fnExactDeriveSpec)

/-- ITS FALSE NEIGHBOUR: 'it returns false'. Refute it at one input. -/
def fnExactDeriveWrong : ChangeSpec := { name := "fnExactDerive", fn := fun _ => fun
  | [d1, d2] => { results := [.lit (.bool false)], args := [d1, d2] }
  | _ => none }
def FnExactDeriveWrongFalsely : Prop := fnExactDeriveRow.holds Try.pinned (OpenSpec.ofChange fnExactDeriveWrong)

/-- 'laws.FnExactDerivable': WHATEVER THE INPUT: true; the input reads as it did. -/
def fnExactDerivableSpec : ChangeSpec := { name := "fnExactDerivable", fn := fun _ => fun
  | [d1, d2, d3] => { results := [.lit (.bool true)], args := [d1, d2, d3] }
  | _ => none }
def fnExactDerivableRow : OpenClaim := { program := "ytakfohcnclmkbab", sum := "be30869ed117958b56a6c7f75ab1b3a412dbe914dd5fa0fbeaf72088f11517ed", func := "loop.example/multipathtransport/laws.FnExactDerivable", spec := "fnExactDerivable", unfollowed := true, recurses := true, apart := false }
def FnExactDerivableSaid : Prop := fnExactDerivableRow.holds Try.pinned (OpenSpec.ofChange fnExactDerivableSpec)

/-- ITS FALSE NEIGHBOUR: 'it returns false'. Refute it at one input. -/
def fnExactDerivableWrong : ChangeSpec := { name := "fnExactDerivable", fn := fun _ => fun
  | [d1, d2, d3] => { results := [.lit (.bool false)], args := [d1, d2, d3] }
  | _ => none }
def FnExactDerivableWrongFalsely : Prop := fnExactDerivableRow.holds Try.pinned (OpenSpec.ofChange fnExactDerivableWrong)

/-- 'laws.FnExactOpened': WHATEVER THE INPUT: true; the input reads as it did. -/
def fnExactOpenedSpec : ChangeSpec := { name := "fnExactOpened", fn := fun _ => fun
  | [d1, d2] => { results := [.lit (.bool true)], args := [d1, d2] }
  | _ => none }
def fnExactOpenedRow : OpenClaim := { program := "ytakfohcnclmkbab", sum := "be30869ed117958b56a6c7f75ab1b3a412dbe914dd5fa0fbeaf72088f11517ed", func := "loop.example/multipathtransport/laws.FnExactOpened", spec := "fnExactOpened", unfollowed := true, recurses := true, apart := false }
def FnExactOpenedSaid : Prop := fnExactOpenedRow.holds Try.pinned (OpenSpec.ofChange fnExactOpenedSpec)

/-- ITS FALSE NEIGHBOUR: 'it returns false'. Refute it at one input. -/
def fnExactOpenedWrong : ChangeSpec := { name := "fnExactOpened", fn := fun _ => fun
  | [d1, d2] => { results := [.lit (.bool false)], args := [d1, d2] }
  | _ => none }
def FnExactOpenedWrongFalsely : Prop := fnExactOpenedRow.holds Try.pinned (OpenSpec.ofChange fnExactOpenedWrong)

/-- 'laws.FnExactGuards': WHATEVER THE INPUT: true; the input reads as it did. -/
def fnExactGuardsSpec : ChangeSpec := { name := "fnExactGuards", fn := fun _ => fun
  | [d1, d2, d3] => { results := [.lit (.bool true)], args := [d1, d2, d3] }
  | _ => none }
def fnExactGuardsRow : OpenClaim := { program := "ytakfohcnclmkbab", sum := "be30869ed117958b56a6c7f75ab1b3a412dbe914dd5fa0fbeaf72088f11517ed", func := "loop.example/multipathtransport/laws.FnExactGuards", spec := "fnExactGuards", unfollowed := true, recurses := true, apart := false }
def FnExactGuardsSaid : Prop := fnExactGuardsRow.holds Try.pinned (OpenSpec.ofChange fnExactGuardsSpec)

/-- ITS FALSE NEIGHBOUR: 'it returns false'. Refute it at one input. -/
def fnExactGuardsWrong : ChangeSpec := { name := "fnExactGuards", fn := fun _ => fun
  | [d1, d2, d3] => { results := [.lit (.bool false)], args := [d1, d2, d3] }
  | _ => none }
def FnExactGuardsWrongFalsely : Prop := fnExactGuardsRow.holds Try.pinned (OpenSpec.ofChange fnExactGuardsWrong)

/- THE SECOND FORM. 'bulk': how many values and letters a reading holds, each counted each time it is reached (what is shared counts as often as it is met; a slice's spare places count too). A statement '..UptoSaid' is the law's where the arguments, and the package variables that the reading takes, are together of bulk at most 1048576: NARROWER than '..Said'. Prove '..Said' where nothing that the law and all that it calls make is longer than what came in: it says more and counts as full. Else prove '..UptoSaid'. A law counts once. -/
mutual
def uptoBulk {H : Type} : DataW H → Nat
  | .lit (.string bytes) => bytes.length + 1
  | .lit _ => 1
  | .nil => 1
  | .ptr d => uptoBulk d + 1
  | .slice elems spare => uptoBulkAll elems + uptoBulkAll spare + 1
  | .agg parts => uptoBulkAll parts + 1
  | .iface _ d => uptoBulk d + 1
  | .map entries => uptoBulkEntries entries + 1
  | .held _ => 1
def uptoBulkAll {H : Type} : List (DataW H) → Nat
  | [] => 0
  | d :: r => uptoBulk d + uptoBulkAll r
def uptoBulkEntries {H : Type} : List (Lit × DataW H) → Nat
  | [] => 0
  | x :: r => uptoBulkEntry x + uptoBulkEntries r
def uptoBulkEntry {H : Type} : Lit × DataW H → Nat
  | (.string bytes, d) => bytes.length + uptoBulk d + 1
  | (_, d) => uptoBulk d + 1
 end
def uptoSmall : (H : Type) → List (DataW H) → Bool := fun _ ds => decide (uptoBulkAll ds ≤ 1048576)
def OpenSpec.upto (s : _root_.Go.ChangeSpec) : _root_.Go.OpenSpec := { _root_.Go.OpenSpec.ofChange s with cond := some uptoSmall }

/-- 'laws.FnExactBoxesValid', WHERE WHAT IT READS IS OF BULK AT MOST 1048576: true; the input reads as it did. -/
def fnExactBoxesValidUptoRow : OpenClaim := { program := "ytakfohcnclmkbab", sum := "be30869ed117958b56a6c7f75ab1b3a412dbe914dd5fa0fbeaf72088f11517ed", func := "loop.example/multipathtransport/laws.FnExactBoxesValid", spec := "fnExactBoxesValid", unfollowed := true, recurses := true, apart := false, narrowed := true }
def FnExactBoxesValidUptoSaid : Prop := fnExactBoxesValidUptoRow.holds Try.pinned (OpenSpec.upto fnExactBoxesValidSpec)

/-- 'laws.FnExactDerive', WHERE WHAT IT READS IS OF BULK AT MOST 1048576: true; the input reads as it did. -/
def fnExactDeriveUptoRow : OpenClaim := { program := "ytakfohcnclmkbab", sum := "be30869ed117958b56a6c7f75ab1b3a412dbe914dd5fa0fbeaf72088f11517ed", func := "loop.example/multipathtransport/laws.FnExactDerive", spec := "fnExactDerive", unfollowed := true, recurses := true, apart := false, narrowed := true }
def FnExactDeriveUptoSaid : Prop := fnExactDeriveUptoRow.holds Try.pinned (OpenSpec.upto fnExactDeriveSpec)

/-- 'laws.FnExactDerivable', WHERE WHAT IT READS IS OF BULK AT MOST 1048576: true; the input reads as it did. -/
def fnExactDerivableUptoRow : OpenClaim := { program := "ytakfohcnclmkbab", sum := "be30869ed117958b56a6c7f75ab1b3a412dbe914dd5fa0fbeaf72088f11517ed", func := "loop.example/multipathtransport/laws.FnExactDerivable", spec := "fnExactDerivable", unfollowed := true, recurses := true, apart := false, narrowed := true }
def FnExactDerivableUptoSaid : Prop := fnExactDerivableUptoRow.holds Try.pinned (OpenSpec.upto fnExactDerivableSpec)

/-- 'laws.FnExactOpened', WHERE WHAT IT READS IS OF BULK AT MOST 1048576: true; the input reads as it did. -/
def fnExactOpenedUptoRow : OpenClaim := { program := "ytakfohcnclmkbab", sum := "be30869ed117958b56a6c7f75ab1b3a412dbe914dd5fa0fbeaf72088f11517ed", func := "loop.example/multipathtransport/laws.FnExactOpened", spec := "fnExactOpened", unfollowed := true, recurses := true, apart := false, narrowed := true }
def FnExactOpenedUptoSaid : Prop := fnExactOpenedUptoRow.holds Try.pinned (OpenSpec.upto fnExactOpenedSpec)

/-- 'laws.FnExactGuards', WHERE WHAT IT READS IS OF BULK AT MOST 1048576: true; the input reads as it did. -/
def fnExactGuardsUptoRow : OpenClaim := { program := "ytakfohcnclmkbab", sum := "be30869ed117958b56a6c7f75ab1b3a412dbe914dd5fa0fbeaf72088f11517ed", func := "loop.example/multipathtransport/laws.FnExactGuards", spec := "fnExactGuards", unfollowed := true, recurses := true, apart := false, narrowed := true }
def FnExactGuardsUptoSaid : Prop := fnExactGuardsUptoRow.holds Try.pinned (OpenSpec.upto fnExactGuardsSpec)

end Rows
end Go.Proofs.Ytakfohcnclmkbab
