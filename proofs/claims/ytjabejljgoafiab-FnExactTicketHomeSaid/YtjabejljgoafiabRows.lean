/-
  No cell of these rows narrows 'for every input' (looked for: loops, veiled, ifaces, maps, wideKeys, modest, calm, conditions, laid).
  DERIVED. THE GIVEN ROWS OF THIS SEAT. 5 by the template 'for every input the law returns true; each argument reads behind the call as it read before'; 0 by the template 'total and deterministic' (their statements: YtjabejljgoafiabTotals.lean).
  GIVEN WITH THE SEED: the statements are not yours to turn. If you find one false, say at which input.
  Laid BY PROGRAM, IN A SANDBOX (cutbox-rows.mjs): the forced cells as the released guide's own fill.sh prints them over the translation 7902289b69cb66f2… (all of the seat's roots in one cut). By AI agents, Wed Nov 11 2026. No macro, syntax, notation, axiom, sorry.
-/
import Derived.Test.YtjabejljgoafiabChecked
import GoSem.Claim
import GoSem.ClaimJoined
import GoSem.ClaimMapViews
import Derived.JoinedTies
import Derived.KernelRfl
namespace Go.Proofs.Ytjabejljgoafiab
/- THE CELL 'sum', in the pinned program and in every row, IS THE sha256 OF THE DUMP (.gsa) THAT YtjabejljgoafiabProg.lean LOADS. Nothing in Lean hashes anything: it is a label: what it is worth is what the hold of that sum in a sandbox is worth. -/
noncomputable def Try.pinned : Pinned := { name := "ytjabejljgoafiab", sum := "7902289b69cb66f2eed90ac30af39995902a0e550dfeca71d78f0c67f039b7d3", checked := Try.checked }
namespace Rows
def none {H : Type} : Left H := { results := [], args := [] }

/-- 'laws.FnExactRegisterValid': WHATEVER THE INPUT: true; the input reads as it did. -/
def fnExactRegisterValidSpec : ChangeSpec := { name := "fnExactRegisterValid", fn := fun _ => fun
  | [d] => { results := [.lit (.bool true)], args := [d] }
  | _ => none }
def fnExactRegisterValidRow : OpenClaim := { program := "ytjabejljgoafiab", sum := "7902289b69cb66f2eed90ac30af39995902a0e550dfeca71d78f0c67f039b7d3", func := "loop.example/multipathtransport/laws.FnExactRegisterValid", spec := "fnExactRegisterValid", apart := false }
def FnExactRegisterValidSaid : Prop := fnExactRegisterValidRow.holds Try.pinned (OpenSpec.ofChange fnExactRegisterValidSpec)

/-- ITS FALSE NEIGHBOUR: 'it returns false'. Refute it at one input. -/
def fnExactRegisterValidWrong : ChangeSpec := { name := "fnExactRegisterValid", fn := fun _ => fun
  | [d] => { results := [.lit (.bool false)], args := [d] }
  | _ => none }
def FnExactRegisterValidWrongFalsely : Prop := fnExactRegisterValidRow.holds Try.pinned (OpenSpec.ofChange fnExactRegisterValidWrong)

/-- 'laws.FnExactRegisterTick': WHATEVER THE INPUT: true; the input reads as it did. -/
def fnExactRegisterTickSpec : ChangeSpec := { name := "fnExactRegisterTick", fn := fun _ => fun
  | [d1, d2] => { results := [.lit (.bool true)], args := [d1, d2] }
  | _ => none }
def fnExactRegisterTickRow : OpenClaim := { program := "ytjabejljgoafiab", sum := "7902289b69cb66f2eed90ac30af39995902a0e550dfeca71d78f0c67f039b7d3", func := "loop.example/multipathtransport/laws.FnExactRegisterTick", spec := "fnExactRegisterTick", unfollowed := true, recurses := true, apart := false }
def FnExactRegisterTickSaid : Prop := fnExactRegisterTickRow.holds Try.pinned (OpenSpec.ofChange fnExactRegisterTickSpec)

/-- ITS FALSE NEIGHBOUR: 'it returns false'. Refute it at one input. -/
def fnExactRegisterTickWrong : ChangeSpec := { name := "fnExactRegisterTick", fn := fun _ => fun
  | [d1, d2] => { results := [.lit (.bool false)], args := [d1, d2] }
  | _ => none }
def FnExactRegisterTickWrongFalsely : Prop := fnExactRegisterTickRow.holds Try.pinned (OpenSpec.ofChange fnExactRegisterTickWrong)

/-- 'laws.FnExactRegisterTry': WHATEVER THE INPUT: true; the input reads as it did. -/
def fnExactRegisterTrySpec : ChangeSpec := { name := "fnExactRegisterTry", fn := fun _ => fun
  | [d1, d2] => { results := [.lit (.bool true)], args := [d1, d2] }
  | _ => none }
def fnExactRegisterTryRow : OpenClaim := { program := "ytjabejljgoafiab", sum := "7902289b69cb66f2eed90ac30af39995902a0e550dfeca71d78f0c67f039b7d3", func := "loop.example/multipathtransport/laws.FnExactRegisterTry", spec := "fnExactRegisterTry", inPlace := ["slices.overlaps[loop.example/multipathtransport/impl.Ticket]"], unfollowed := true, recurses := true, apart := false }
def FnExactRegisterTrySaid : Prop := fnExactRegisterTryRow.holds Try.pinned (OpenSpec.ofChange fnExactRegisterTrySpec)

/-- ITS FALSE NEIGHBOUR: 'it returns false'. Refute it at one input. -/
def fnExactRegisterTryWrong : ChangeSpec := { name := "fnExactRegisterTry", fn := fun _ => fun
  | [d1, d2] => { results := [.lit (.bool false)], args := [d1, d2] }
  | _ => none }
def FnExactRegisterTryWrongFalsely : Prop := fnExactRegisterTryRow.holds Try.pinned (OpenSpec.ofChange fnExactRegisterTryWrong)

/-- 'laws.FnExactTicketHome': WHATEVER THE INPUT: true; the input reads as it did. -/
def fnExactTicketHomeSpec : ChangeSpec := { name := "fnExactTicketHome", fn := fun _ => fun
  | [d1, d2] => { results := [.lit (.bool true)], args := [d1, d2] }
  | _ => none }
def fnExactTicketHomeRow : OpenClaim := { program := "ytjabejljgoafiab", sum := "7902289b69cb66f2eed90ac30af39995902a0e550dfeca71d78f0c67f039b7d3", func := "loop.example/multipathtransport/laws.FnExactTicketHome", spec := "fnExactTicketHome", apart := false }
def FnExactTicketHomeSaid : Prop := fnExactTicketHomeRow.holds Try.pinned (OpenSpec.ofChange fnExactTicketHomeSpec)

/-- ITS FALSE NEIGHBOUR: 'it returns false'. Refute it at one input. -/
def fnExactTicketHomeWrong : ChangeSpec := { name := "fnExactTicketHome", fn := fun _ => fun
  | [d1, d2] => { results := [.lit (.bool false)], args := [d1, d2] }
  | _ => none }
def FnExactTicketHomeWrongFalsely : Prop := fnExactTicketHomeRow.holds Try.pinned (OpenSpec.ofChange fnExactTicketHomeWrong)

/-- 'laws.FnExactServersTry': WHATEVER THE INPUT: true; the input reads as it did. -/
def fnExactServersTrySpec : ChangeSpec := { name := "fnExactServersTry", fn := fun _ => fun
  | [d1, d2, d3] => { results := [.lit (.bool true)], args := [d1, d2, d3] }
  | _ => none }
def fnExactServersTryRow : OpenClaim := { program := "ytjabejljgoafiab", sum := "7902289b69cb66f2eed90ac30af39995902a0e550dfeca71d78f0c67f039b7d3", func := "loop.example/multipathtransport/laws.FnExactServersTry", spec := "fnExactServersTry", inPlace := ["slices.overlaps[loop.example/multipathtransport/impl.Ticket]"], unfollowed := true, recurses := true, apart := false }
def FnExactServersTrySaid : Prop := fnExactServersTryRow.holds Try.pinned (OpenSpec.ofChange fnExactServersTrySpec)

/-- ITS FALSE NEIGHBOUR: 'it returns false'. Refute it at one input. -/
def fnExactServersTryWrong : ChangeSpec := { name := "fnExactServersTry", fn := fun _ => fun
  | [d1, d2, d3] => { results := [.lit (.bool false)], args := [d1, d2, d3] }
  | _ => none }
def FnExactServersTryWrongFalsely : Prop := fnExactServersTryRow.holds Try.pinned (OpenSpec.ofChange fnExactServersTryWrong)

/- THE SECOND FORM. 'bulk': how many values and letters a reading holds, each counted each time it is reached (what is shared counts as often as it is met; a slice's spare places count too). A statement '..UptoSaid' is the law's where the arguments, and the package variables that the reading takes, are together of bulk at most 1048576: NARROWER than '..Said'. Prove '..Said' where nothing that the law and all that it calls make is longer than what came in: it says more and counts as full. Else prove '..UptoSaid'. A law counts once. -/
mutual
def uptoBulk {H : Type} : DataW H → Nat
  | .lit (.string bytes) => bytes.length + 1
  | .lit _ => 1
  | .nil => 1
  | .ptr d => uptoBulk d + 1
  | .slice elems spare => uptoBulkAll elems + uptoBulkAll spare + 1
  | .agg parts => uptoBulkAll parts + 1
  | .iface _ d => uptoBulk d + 1
  | .map entries => uptoBulkEntries entries + 1
  | .held _ => 1
def uptoBulkAll {H : Type} : List (DataW H) → Nat
  | [] => 0
  | d :: r => uptoBulk d + uptoBulkAll r
def uptoBulkEntries {H : Type} : List (Lit × DataW H) → Nat
  | [] => 0
  | x :: r => uptoBulkEntry x + uptoBulkEntries r
def uptoBulkEntry {H : Type} : Lit × DataW H → Nat
  | (.string bytes, d) => bytes.length + uptoBulk d + 1
  | (_, d) => uptoBulk d + 1
 end
def uptoSmall : (H : Type) → List (DataW H) → Bool := fun _ ds => decide (uptoBulkAll ds ≤ 1048576)
def OpenSpec.upto (s : _root_.Go.ChangeSpec) : _root_.Go.OpenSpec := { _root_.Go.OpenSpec.ofChange s with cond := some uptoSmall }

/-- 'laws.FnExactRegisterValid', WHERE WHAT IT READS IS OF BULK AT MOST 1048576: true; the input reads as it did. -/
def fnExactRegisterValidUptoRow : OpenClaim := { program := "ytjabejljgoafiab", sum := "7902289b69cb66f2eed90ac30af39995902a0e550dfeca71d78f0c67f039b7d3", func := "loop.example/multipathtransport/laws.FnExactRegisterValid", spec := "fnExactRegisterValid", apart := false, narrowed := true }
def FnExactRegisterValidUptoSaid : Prop := fnExactRegisterValidUptoRow.holds Try.pinned (OpenSpec.upto fnExactRegisterValidSpec)

/-- 'laws.FnExactRegisterTick', WHERE WHAT IT READS IS OF BULK AT MOST 1048576: true; the input reads as it did. -/
def fnExactRegisterTickUptoRow : OpenClaim := { program := "ytjabejljgoafiab", sum := "7902289b69cb66f2eed90ac30af39995902a0e550dfeca71d78f0c67f039b7d3", func := "loop.example/multipathtransport/laws.FnExactRegisterTick", spec := "fnExactRegisterTick", unfollowed := true, recurses := true, apart := false, narrowed := true }
def FnExactRegisterTickUptoSaid : Prop := fnExactRegisterTickUptoRow.holds Try.pinned (OpenSpec.upto fnExactRegisterTickSpec)

/-- 'laws.FnExactRegisterTry', WHERE WHAT IT READS IS OF BULK AT MOST 1048576: true; the input reads as it did. -/
def fnExactRegisterTryUptoRow : OpenClaim := { program := "ytjabejljgoafiab", sum := "7902289b69cb66f2eed90ac30af39995902a0e550dfeca71d78f0c67f039b7d3", func := "loop.example/multipathtransport/laws.FnExactRegisterTry", spec := "fnExactRegisterTry", inPlace := ["slices.overlaps[loop.example/multipathtransport/impl.Ticket]"], unfollowed := true, recurses := true, apart := false, narrowed := true }
def FnExactRegisterTryUptoSaid : Prop := fnExactRegisterTryUptoRow.holds Try.pinned (OpenSpec.upto fnExactRegisterTrySpec)

/-- 'laws.FnExactTicketHome', WHERE WHAT IT READS IS OF BULK AT MOST 1048576: true; the input reads as it did. -/
def fnExactTicketHomeUptoRow : OpenClaim := { program := "ytjabejljgoafiab", sum := "7902289b69cb66f2eed90ac30af39995902a0e550dfeca71d78f0c67f039b7d3", func := "loop.example/multipathtransport/laws.FnExactTicketHome", spec := "fnExactTicketHome", apart := false, narrowed := true }
def FnExactTicketHomeUptoSaid : Prop := fnExactTicketHomeUptoRow.holds Try.pinned (OpenSpec.upto fnExactTicketHomeSpec)

/-- 'laws.FnExactServersTry', WHERE WHAT IT READS IS OF BULK AT MOST 1048576: true; the input reads as it did. -/
def fnExactServersTryUptoRow : OpenClaim := { program := "ytjabejljgoafiab", sum := "7902289b69cb66f2eed90ac30af39995902a0e550dfeca71d78f0c67f039b7d3", func := "loop.example/multipathtransport/laws.FnExactServersTry", spec := "fnExactServersTry", inPlace := ["slices.overlaps[loop.example/multipathtransport/impl.Ticket]"], unfollowed := true, recurses := true, apart := false, narrowed := true }
def FnExactServersTryUptoSaid : Prop := fnExactServersTryUptoRow.holds Try.pinned (OpenSpec.upto fnExactServersTrySpec)

end Rows
end Go.Proofs.Ytjabejljgoafiab
