/-
  No cell of these rows narrows 'for every input' (looked for: loops, veiled, ifaces, maps, wideKeys, modest, calm, conditions, laid).
  DERIVED. THE GIVEN ROWS OF THIS SEAT. 12 by the template 'for every input the law returns true; each argument reads behind the call as it read before'; 0 by the template 'total and deterministic' (their statements: YtakfohcnclmkbaaTotals.lean).
  GIVEN WITH THE SEED: the statements are not yours to turn. If you find one false, say at which input.
  Laid BY PROGRAM, IN A SANDBOX (cutbox-rows.mjs): the forced cells as the released guide's own fill.sh prints them over the translation 130e553c4238d1a8… (all of the seat's roots in one cut). By AI agents, Wed Nov 11 2026. No macro, syntax, notation, axiom, sorry.
-/
import Derived.Test.YtakfohcnclmkbaaChecked
import GoSem.Claim
import GoSem.ClaimJoined
import GoSem.ClaimMapViews
import Derived.JoinedTies
import Derived.KernelRfl
namespace Go.Proofs.Ytakfohcnclmkbaa
/- THE CELL 'sum', in the pinned program and in every row, IS THE sha256 OF THE DUMP (.gsa) THAT YtakfohcnclmkbaaProg.lean LOADS. Nothing in Lean hashes anything: it is a label: what it is worth is what the hold of that sum in a sandbox is worth. -/
noncomputable def Try.pinned : Pinned := { name := "ytakfohcnclmkbaa", sum := "130e553c4238d1a83a9ceb755ff48538394f6fa5685f3a858ae5eab52372be51", checked := Try.checked }
namespace Rows
def none {H : Type} : Left H := { results := [], args := [] }

/-- 'laws.FnDeriveKnown': WHATEVER THE INPUT: true; the input reads as it did. -/
def fnDeriveKnownSpec : ChangeSpec := { name := "fnDeriveKnown", fn := fun _ => fun
  | [d] => { results := [.lit (.bool true)], args := [d] }
  | _ => none }
def fnDeriveKnownRow : OpenClaim := { program := "ytakfohcnclmkbaa", sum := "130e553c4238d1a83a9ceb755ff48538394f6fa5685f3a858ae5eab52372be51", func := "loop.example/multipathtransport/laws.FnDeriveKnown", spec := "fnDeriveKnown", unfollowed := true, recurses := true, apart := false }
def FnDeriveKnownSaid : Prop := fnDeriveKnownRow.holds Try.pinned (OpenSpec.ofChange fnDeriveKnownSpec)

/-- ITS FALSE NEIGHBOUR: 'it returns false'. Refute it at one input. -/
def fnDeriveKnownWrong : ChangeSpec := { name := "fnDeriveKnown", fn := fun _ => fun
  | [d] => { results := [.lit (.bool false)], args := [d] }
  | _ => none }
def FnDeriveKnownWrongFalsely : Prop := fnDeriveKnownRow.holds Try.pinned (OpenSpec.ofChange fnDeriveKnownWrong)

/-- 'laws.FnDeriveReason': WHATEVER THE INPUT: true; the input reads as it did. -/
def fnDeriveReasonSpec : ChangeSpec := { name := "fnDeriveReason", fn := fun _ => fun
  | [d] => { results := [.lit (.bool true)], args := [d] }
  | _ => none }
def fnDeriveReasonRow : OpenClaim := { program := "ytakfohcnclmkbaa", sum := "130e553c4238d1a83a9ceb755ff48538394f6fa5685f3a858ae5eab52372be51", func := "loop.example/multipathtransport/laws.FnDeriveReason", spec := "fnDeriveReason", unfollowed := true, recurses := true, apart := false }
def FnDeriveReasonSaid : Prop := fnDeriveReasonRow.holds Try.pinned (OpenSpec.ofChange fnDeriveReasonSpec)

/-- ITS FALSE NEIGHBOUR: 'it returns false'. Refute it at one input. -/
def fnDeriveReasonWrong : ChangeSpec := { name := "fnDeriveReason", fn := fun _ => fun
  | [d] => { results := [.lit (.bool false)], args := [d] }
  | _ => none }
def FnDeriveReasonWrongFalsely : Prop := fnDeriveReasonRow.holds Try.pinned (OpenSpec.ofChange fnDeriveReasonWrong)

/-- 'laws.FnDeriveMore': WHATEVER THE INPUT: true; the input reads as it did. -/
def fnDeriveMoreSpec : ChangeSpec := { name := "fnDeriveMore", fn := fun _ => fun
  | [d1, d2] => { results := [.lit (.bool true)], args := [d1, d2] }
  | _ => none }
def fnDeriveMoreRow : OpenClaim := { program := "ytakfohcnclmkbaa", sum := "130e553c4238d1a83a9ceb755ff48538394f6fa5685f3a858ae5eab52372be51", func := "loop.example/multipathtransport/laws.FnDeriveMore", spec := "fnDeriveMore", unfollowed := true, recurses := true, apart := false }
def FnDeriveMoreSaid : Prop := fnDeriveMoreRow.holds Try.pinned (OpenSpec.ofChange fnDeriveMoreSpec)

/-- ITS FALSE NEIGHBOUR: 'it returns false'. Refute it at one input. -/
def fnDeriveMoreWrong : ChangeSpec := { name := "fnDeriveMore", fn := fun _ => fun
  | [d1, d2] => { results := [.lit (.bool false)], args := [d1, d2] }
  | _ => none }
def FnDeriveMoreWrongFalsely : Prop := fnDeriveMoreRow.holds Try.pinned (OpenSpec.ofChange fnDeriveMoreWrong)

/-- 'laws.FnDeriveFewer': WHATEVER THE INPUT: true; the input reads as it did. -/
def fnDeriveFewerSpec : ChangeSpec := { name := "fnDeriveFewer", fn := fun _ => fun
  | [d1, d2] => { results := [.lit (.bool true)], args := [d1, d2] }
  | _ => none }
def fnDeriveFewerRow : OpenClaim := { program := "ytakfohcnclmkbaa", sum := "130e553c4238d1a83a9ceb755ff48538394f6fa5685f3a858ae5eab52372be51", func := "loop.example/multipathtransport/laws.FnDeriveFewer", spec := "fnDeriveFewer", unfollowed := true, recurses := true, apart := false }
def FnDeriveFewerSaid : Prop := fnDeriveFewerRow.holds Try.pinned (OpenSpec.ofChange fnDeriveFewerSpec)

/-- ITS FALSE NEIGHBOUR: 'it returns false'. Refute it at one input. -/
def fnDeriveFewerWrong : ChangeSpec := { name := "fnDeriveFewer", fn := fun _ => fun
  | [d1, d2] => { results := [.lit (.bool false)], args := [d1, d2] }
  | _ => none }
def FnDeriveFewerWrongFalsely : Prop := fnDeriveFewerRow.holds Try.pinned (OpenSpec.ofChange fnDeriveFewerWrong)

/-- 'laws.FnDeriveAgain': WHATEVER THE INPUT: true; the input reads as it did. -/
def fnDeriveAgainSpec : ChangeSpec := { name := "fnDeriveAgain", fn := fun _ => fun
  | [d] => { results := [.lit (.bool true)], args := [d] }
  | _ => none }
def fnDeriveAgainRow : OpenClaim := { program := "ytakfohcnclmkbaa", sum := "130e553c4238d1a83a9ceb755ff48538394f6fa5685f3a858ae5eab52372be51", func := "loop.example/multipathtransport/laws.FnDeriveAgain", spec := "fnDeriveAgain", unfollowed := true, recurses := true, apart := false }
def FnDeriveAgainSaid : Prop := fnDeriveAgainRow.holds Try.pinned (OpenSpec.ofChange fnDeriveAgainSpec)

/-- ITS FALSE NEIGHBOUR: 'it returns false'. Refute it at one input. -/
def fnDeriveAgainWrong : ChangeSpec := { name := "fnDeriveAgain", fn := fun _ => fun
  | [d] => { results := [.lit (.bool false)], args := [d] }
  | _ => none }
def FnDeriveAgainWrongFalsely : Prop := fnDeriveAgainRow.holds Try.pinned (OpenSpec.ofChange fnDeriveAgainWrong)

/-- 'laws.FnDeriveOrder': WHATEVER THE INPUT: true; the input reads as it did. -/
def fnDeriveOrderSpec : ChangeSpec := { name := "fnDeriveOrder", fn := fun _ => fun
  | [d] => { results := [.lit (.bool true)], args := [d] }
  | _ => none }
def fnDeriveOrderRow : OpenClaim := { program := "ytakfohcnclmkbaa", sum := "130e553c4238d1a83a9ceb755ff48538394f6fa5685f3a858ae5eab52372be51", func := "loop.example/multipathtransport/laws.FnDeriveOrder", spec := "fnDeriveOrder", unfollowed := true, recurses := true, apart := false }
def FnDeriveOrderSaid : Prop := fnDeriveOrderRow.holds Try.pinned (OpenSpec.ofChange fnDeriveOrderSpec)

/-- ITS FALSE NEIGHBOUR: 'it returns false'. Refute it at one input. -/
def fnDeriveOrderWrong : ChangeSpec := { name := "fnDeriveOrder", fn := fun _ => fun
  | [d] => { results := [.lit (.bool false)], args := [d] }
  | _ => none }
def FnDeriveOrderWrongFalsely : Prop := fnDeriveOrderRow.holds Try.pinned (OpenSpec.ofChange fnDeriveOrderWrong)

/-- 'laws.FnDerivable': WHATEVER THE INPUT: true; the input reads as it did. -/
def fnDerivableSpec : ChangeSpec := { name := "fnDerivable", fn := fun _ => fun
  | [d] => { results := [.lit (.bool true)], args := [d] }
  | _ => none }
def fnDerivableRow : OpenClaim := { program := "ytakfohcnclmkbaa", sum := "130e553c4238d1a83a9ceb755ff48538394f6fa5685f3a858ae5eab52372be51", func := "loop.example/multipathtransport/laws.FnDerivable", spec := "fnDerivable", unfollowed := true, recurses := true, apart := false }
def FnDerivableSaid : Prop := fnDerivableRow.holds Try.pinned (OpenSpec.ofChange fnDerivableSpec)

/-- ITS FALSE NEIGHBOUR: 'it returns false'. Refute it at one input. -/
def fnDerivableWrong : ChangeSpec := { name := "fnDerivable", fn := fun _ => fun
  | [d] => { results := [.lit (.bool false)], args := [d] }
  | _ => none }
def FnDerivableWrongFalsely : Prop := fnDerivableRow.holds Try.pinned (OpenSpec.ofChange fnDerivableWrong)

/-- 'laws.FnOpened': WHATEVER THE INPUT: true; the input reads as it did. -/
def fnOpenedSpec : ChangeSpec := { name := "fnOpened", fn := fun _ => fun
  | [d] => { results := [.lit (.bool true)], args := [d] }
  | _ => none }
def fnOpenedRow : OpenClaim := { program := "ytakfohcnclmkbaa", sum := "130e553c4238d1a83a9ceb755ff48538394f6fa5685f3a858ae5eab52372be51", func := "loop.example/multipathtransport/laws.FnOpened", spec := "fnOpened", unfollowed := true, recurses := true, apart := false }
def FnOpenedSaid : Prop := fnOpenedRow.holds Try.pinned (OpenSpec.ofChange fnOpenedSpec)

/-- ITS FALSE NEIGHBOUR: 'it returns false'. Refute it at one input. -/
def fnOpenedWrong : ChangeSpec := { name := "fnOpened", fn := fun _ => fun
  | [d] => { results := [.lit (.bool false)], args := [d] }
  | _ => none }
def FnOpenedWrongFalsely : Prop := fnOpenedRow.holds Try.pinned (OpenSpec.ofChange fnOpenedWrong)

/-- 'laws.FnGuards': WHATEVER THE INPUT: true; the input reads as it did. -/
def fnGuardsSpec : ChangeSpec := { name := "fnGuards", fn := fun _ => fun
  | [d] => { results := [.lit (.bool true)], args := [d] }
  | _ => none }
def fnGuardsRow : OpenClaim := { program := "ytakfohcnclmkbaa", sum := "130e553c4238d1a83a9ceb755ff48538394f6fa5685f3a858ae5eab52372be51", func := "loop.example/multipathtransport/laws.FnGuards", spec := "fnGuards", unfollowed := true, recurses := true, apart := false }
def FnGuardsSaid : Prop := fnGuardsRow.holds Try.pinned (OpenSpec.ofChange fnGuardsSpec)

/-- ITS FALSE NEIGHBOUR: 'it returns false'. Refute it at one input. -/
def fnGuardsWrong : ChangeSpec := { name := "fnGuards", fn := fun _ => fun
  | [d] => { results := [.lit (.bool false)], args := [d] }
  | _ => none }
def FnGuardsWrongFalsely : Prop := fnGuardsRow.holds Try.pinned (OpenSpec.ofChange fnGuardsWrong)

/-- 'laws.FnGuardsKnown': WHATEVER THE INPUT: true; the input reads as it did. -/
def fnGuardsKnownSpec : ChangeSpec := { name := "fnGuardsKnown", fn := fun _ => fun
  | [d] => { results := [.lit (.bool true)], args := [d] }
  | _ => none }
def fnGuardsKnownRow : OpenClaim := { program := "ytakfohcnclmkbaa", sum := "130e553c4238d1a83a9ceb755ff48538394f6fa5685f3a858ae5eab52372be51", func := "loop.example/multipathtransport/laws.FnGuardsKnown", spec := "fnGuardsKnown", unfollowed := true, recurses := true, apart := false }
def FnGuardsKnownSaid : Prop := fnGuardsKnownRow.holds Try.pinned (OpenSpec.ofChange fnGuardsKnownSpec)

/-- ITS FALSE NEIGHBOUR: 'it returns false'. Refute it at one input. -/
def fnGuardsKnownWrong : ChangeSpec := { name := "fnGuardsKnown", fn := fun _ => fun
  | [d] => { results := [.lit (.bool false)], args := [d] }
  | _ => none }
def FnGuardsKnownWrongFalsely : Prop := fnGuardsKnownRow.holds Try.pinned (OpenSpec.ofChange fnGuardsKnownWrong)

/-- 'laws.FnDeriveClosed': WHATEVER THE INPUT: true; the input reads as it did. -/
def fnDeriveClosedSpec : ChangeSpec := { name := "fnDeriveClosed", fn := fun _ => fun
  | [d] => { results := [.lit (.bool true)], args := [d] }
  | _ => none }
def fnDeriveClosedRow : OpenClaim := { program := "ytakfohcnclmkbaa", sum := "130e553c4238d1a83a9ceb755ff48538394f6fa5685f3a858ae5eab52372be51", func := "loop.example/multipathtransport/laws.FnDeriveClosed", spec := "fnDeriveClosed", unfollowed := true, recurses := true, apart := false }
def FnDeriveClosedSaid : Prop := fnDeriveClosedRow.holds Try.pinned (OpenSpec.ofChange fnDeriveClosedSpec)

/-- ITS FALSE NEIGHBOUR: 'it returns false'. Refute it at one input. -/
def fnDeriveClosedWrong : ChangeSpec := { name := "fnDeriveClosed", fn := fun _ => fun
  | [d] => { results := [.lit (.bool false)], args := [d] }
  | _ => none }
def FnDeriveClosedWrongFalsely : Prop := fnDeriveClosedRow.holds Try.pinned (OpenSpec.ofChange fnDeriveClosedWrong)

/-- 'laws.FnDeriveUnion': WHATEVER THE INPUT: true; the input reads as it did. -/
def fnDeriveUnionSpec : ChangeSpec := { name := "fnDeriveUnion", fn := fun _ => fun
  | [d1, d2] => { results := [.lit (.bool true)], args := [d1, d2] }
  | _ => none }
def fnDeriveUnionRow : OpenClaim := { program := "ytakfohcnclmkbaa", sum := "130e553c4238d1a83a9ceb755ff48538394f6fa5685f3a858ae5eab52372be51", func := "loop.example/multipathtransport/laws.FnDeriveUnion", spec := "fnDeriveUnion", unfollowed := true, recurses := true, apart := false }
def FnDeriveUnionSaid : Prop := fnDeriveUnionRow.holds Try.pinned (OpenSpec.ofChange fnDeriveUnionSpec)

/-- ITS FALSE NEIGHBOUR: 'it returns false'. Refute it at one input. -/
def fnDeriveUnionWrong : ChangeSpec := { name := "fnDeriveUnion", fn := fun _ => fun
  | [d1, d2] => { results := [.lit (.bool false)], args := [d1, d2] }
  | _ => none }
def FnDeriveUnionWrongFalsely : Prop := fnDeriveUnionRow.holds Try.pinned (OpenSpec.ofChange fnDeriveUnionWrong)

/- THE SECOND FORM. 'bulk': how many values and letters a reading holds, each counted each time it is reached (what is shared counts as often as it is met; a slice's spare places count too). A statement '..UptoSaid' is the law's where the arguments, and the package variables that the reading takes, are together of bulk at most 1048576: NARROWER than '..Said'. Prove '..Said' where nothing that the law and all that it calls make is longer than what came in: it says more and counts as full. Else prove '..UptoSaid'. A law counts once. -/
mutual
def uptoBulk {H : Type} : DataW H → Nat
  | .lit (.string bytes) => bytes.length + 1
  | .lit _ => 1
  | .nil => 1
  | .ptr d => uptoBulk d + 1
  | .slice elems spare => uptoBulkAll elems + uptoBulkAll spare + 1
  | .agg parts => uptoBulkAll parts + 1
  | .iface _ d => uptoBulk d + 1
  | .map entries => uptoBulkEntries entries + 1
  | .held _ => 1
def uptoBulkAll {H : Type} : List (DataW H) → Nat
  | [] => 0
  | d :: r => uptoBulk d + uptoBulkAll r
def uptoBulkEntries {H : Type} : List (Lit × DataW H) → Nat
  | [] => 0
  | x :: r => uptoBulkEntry x + uptoBulkEntries r
def uptoBulkEntry {H : Type} : Lit × DataW H → Nat
  | (.string bytes, d) => bytes.length + uptoBulk d + 1
  | (_, d) => uptoBulk d + 1
 end
def uptoSmall : (H : Type) → List (DataW H) → Bool := fun _ ds => decide (uptoBulkAll ds ≤ 1048576)
def OpenSpec.upto (s : _root_.Go.ChangeSpec) : _root_.Go.OpenSpec := { _root_.Go.OpenSpec.ofChange s with cond := some uptoSmall }

/-- 'laws.FnDeriveKnown', WHERE WHAT IT READS IS OF BULK AT MOST 1048576: true; the input reads as it did. -/
def fnDeriveKnownUptoRow : OpenClaim := { program := "ytakfohcnclmkbaa", sum := "130e553c4238d1a83a9ceb755ff48538394f6fa5685f3a858ae5eab52372be51", func := "loop.example/multipathtransport/laws.FnDeriveKnown", spec := "fnDeriveKnown", unfollowed := true, recurses := true, apart := false, narrowed := true }
def FnDeriveKnownUptoSaid : Prop := fnDeriveKnownUptoRow.holds Try.pinned (OpenSpec.upto fnDeriveKnownSpec)

/-- 'laws.FnDeriveReason', WHERE WHAT IT READS IS OF BULK AT MOST 1048576: true; the input reads as it did. -/
def fnDeriveReasonUptoRow : OpenClaim := { program := "ytakfohcnclmkbaa", sum := "130e553c4238d1a83a9ceb755ff48538394f6fa5685f3a858ae5eab52372be51", func := "loop.example/multipathtransport/laws.FnDeriveReason", spec := "fnDeriveReason", unfollowed := true, recurses := true, apart := false, narrowed := true }
def FnDeriveReasonUptoSaid : Prop := fnDeriveReasonUptoRow.holds Try.pinned (OpenSpec.upto fnDeriveReasonSpec)

/-- 'laws.FnDeriveMore', WHERE WHAT IT READS IS OF BULK AT MOST 1048576: true; the input reads as it did. -/
def fnDeriveMoreUptoRow : OpenClaim := { program := "ytakfohcnclmkbaa", sum := "130e553c4238d1a83a9ceb755ff48538394f6fa5685f3a858ae5eab52372be51", func := "loop.example/multipathtransport/laws.FnDeriveMore", spec := "fnDeriveMore", unfollowed := true, recurses := true, apart := false, narrowed := true }
def FnDeriveMoreUptoSaid : Prop := fnDeriveMoreUptoRow.holds Try.pinned (OpenSpec.upto fnDeriveMoreSpec)

/-- 'laws.FnDeriveFewer', WHERE WHAT IT READS IS OF BULK AT MOST 1048576: true; the input reads as it did. -/
def fnDeriveFewerUptoRow : OpenClaim := { program := "ytakfohcnclmkbaa", sum := "130e553c4238d1a83a9ceb755ff48538394f6fa5685f3a858ae5eab52372be51", func := "loop.example/multipathtransport/laws.FnDeriveFewer", spec := "fnDeriveFewer", unfollowed := true, recurses := true, apart := false, narrowed := true }
def FnDeriveFewerUptoSaid : Prop := fnDeriveFewerUptoRow.holds Try.pinned (OpenSpec.upto fnDeriveFewerSpec)

/-- 'laws.FnDeriveAgain', WHERE WHAT IT READS IS OF BULK AT MOST 1048576: true; the input reads as it did. -/
def fnDeriveAgainUptoRow : OpenClaim := { program := "ytakfohcnclmkbaa", sum := "130e553c4238d1a83a9ceb755ff48538394f6fa5685f3a858ae5eab52372be51", func := "loop.example/multipathtransport/laws.FnDeriveAgain", spec := "fnDeriveAgain", unfollowed := true, recurses := true, apart := false, narrowed := true }
def FnDeriveAgainUptoSaid : Prop := fnDeriveAgainUptoRow.holds Try.pinned (OpenSpec.upto fnDeriveAgainSpec)

/-- 'laws.FnDeriveOrder', WHERE WHAT IT READS IS OF BULK AT MOST 1048576: true; the input reads as it did. -/
def fnDeriveOrderUptoRow : OpenClaim := { program := "ytakfohcnclmkbaa", sum := "130e553c4238d1a83a9ceb755ff48538394f6fa5685f3a858ae5eab52372be51", func := "loop.example/multipathtransport/laws.FnDeriveOrder", spec := "fnDeriveOrder", unfollowed := true, recurses := true, apart := false, narrowed := true }
def FnDeriveOrderUptoSaid : Prop := fnDeriveOrderUptoRow.holds Try.pinned (OpenSpec.upto fnDeriveOrderSpec)

/-- 'laws.FnDerivable', WHERE WHAT IT READS IS OF BULK AT MOST 1048576: true; the input reads as it did. -/
def fnDerivableUptoRow : OpenClaim := { program := "ytakfohcnclmkbaa", sum := "130e553c4238d1a83a9ceb755ff48538394f6fa5685f3a858ae5eab52372be51", func := "loop.example/multipathtransport/laws.FnDerivable", spec := "fnDerivable", unfollowed := true, recurses := true, apart := false, narrowed := true }
def FnDerivableUptoSaid : Prop := fnDerivableUptoRow.holds Try.pinned (OpenSpec.upto fnDerivableSpec)

/-- 'laws.FnOpened', WHERE WHAT IT READS IS OF BULK AT MOST 1048576: true; the input reads as it did. -/
def fnOpenedUptoRow : OpenClaim := { program := "ytakfohcnclmkbaa", sum := "130e553c4238d1a83a9ceb755ff48538394f6fa5685f3a858ae5eab52372be51", func := "loop.example/multipathtransport/laws.FnOpened", spec := "fnOpened", unfollowed := true, recurses := true, apart := false, narrowed := true }
def FnOpenedUptoSaid : Prop := fnOpenedUptoRow.holds Try.pinned (OpenSpec.upto fnOpenedSpec)

/-- 'laws.FnGuards', WHERE WHAT IT READS IS OF BULK AT MOST 1048576: true; the input reads as it did. -/
def fnGuardsUptoRow : OpenClaim := { program := "ytakfohcnclmkbaa", sum := "130e553c4238d1a83a9ceb755ff48538394f6fa5685f3a858ae5eab52372be51", func := "loop.example/multipathtransport/laws.FnGuards", spec := "fnGuards", unfollowed := true, recurses := true, apart := false, narrowed := true }
def FnGuardsUptoSaid : Prop := fnGuardsUptoRow.holds Try.pinned (OpenSpec.upto fnGuardsSpec)

/-- 'laws.FnGuardsKnown', WHERE WHAT IT READS IS OF BULK AT MOST 1048576: true; the input reads as it did. -/
def fnGuardsKnownUptoRow : OpenClaim := { program := "ytakfohcnclmkbaa", sum := "130e553c4238d1a83a9ceb755ff48538394f6fa5685f3a858ae5eab52372be51", func := "loop.example/multipathtransport/laws.FnGuardsKnown", spec := "fnGuardsKnown", unfollowed := true, recurses := true, apart := false, narrowed := true }
def FnGuardsKnownUptoSaid : Prop := fnGuardsKnownUptoRow.holds Try.pinned (OpenSpec.upto fnGuardsKnownSpec)

/-- 'laws.FnDeriveClosed', WHERE WHAT IT READS IS OF BULK AT MOST 1048576: true; the input reads as it did. -/
def fnDeriveClosedUptoRow : OpenClaim := { program := "ytakfohcnclmkbaa", sum := "130e553c4238d1a83a9ceb755ff48538394f6fa5685f3a858ae5eab52372be51", func := "loop.example/multipathtransport/laws.FnDeriveClosed", spec := "fnDeriveClosed", unfollowed := true, recurses := true, apart := false, narrowed := true }
def FnDeriveClosedUptoSaid : Prop := fnDeriveClosedUptoRow.holds Try.pinned (OpenSpec.upto fnDeriveClosedSpec)

/-- 'laws.FnDeriveUnion', WHERE WHAT IT READS IS OF BULK AT MOST 1048576: true; the input reads as it did. -/
def fnDeriveUnionUptoRow : OpenClaim := { program := "ytakfohcnclmkbaa", sum := "130e553c4238d1a83a9ceb755ff48538394f6fa5685f3a858ae5eab52372be51", func := "loop.example/multipathtransport/laws.FnDeriveUnion", spec := "fnDeriveUnion", unfollowed := true, recurses := true, apart := false, narrowed := true }
def FnDeriveUnionUptoSaid : Prop := fnDeriveUnionUptoRow.holds Try.pinned (OpenSpec.upto fnDeriveUnionSpec)

end Rows
end Go.Proofs.Ytakfohcnclmkbaa
