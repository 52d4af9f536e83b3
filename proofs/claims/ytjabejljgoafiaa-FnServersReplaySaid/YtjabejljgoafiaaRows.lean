/-
  No cell of these rows narrows 'for every input' (looked for: loops, veiled, ifaces, maps, wideKeys, modest, calm, conditions, laid).
  DERIVED. THE GIVEN ROWS OF THIS SEAT. 12 by the template 'for every input the law returns true; each argument reads behind the call as it read before'; 0 by the template 'total and deterministic' (their statements: YtjabejljgoafiaaTotals.lean).
  GIVEN WITH THE SEED: the statements are not yours to turn. If you find one false, say at which input.
  Laid BY PROGRAM, IN A SANDBOX (cutbox-rows.mjs): the forced cells as the released guide's own fill.sh prints them over the translation 0b8cbaacfc28b18f… (all of the seat's roots in one cut). By AI agents, Wed Nov 11 2026. No macro, syntax, notation, axiom, sorry.
-/
import Derived.Test.YtjabejljgoafiaaChecked
import GoSem.Claim
import GoSem.ClaimJoined
import GoSem.ClaimMapViews
import Derived.JoinedTies
import Derived.KernelRfl
namespace Go.Proofs.Ytjabejljgoafiaa
/- THE CELL 'sum', in the pinned program and in every row, IS THE sha256 OF THE DUMP (.gsa) THAT YtjabejljgoafiaaProg.lean LOADS. Nothing in Lean hashes anything: it is a label: what it is worth is what the hold of that sum in a sandbox is worth. -/
noncomputable def Try.pinned : Pinned := { name := "ytjabejljgoafiaa", sum := "0b8cbaacfc28b18ff89602349d283c1cd8be55a0850bcfd36ed5b73f2b3aaecd", checked := Try.checked }
namespace Rows
def none {H : Type} : Left H := { results := [], args := [] }

/-- 'laws.FnRegisterOnce': WHATEVER THE INPUT: true; the input reads as it did. -/
def fnRegisterOnceSpec : ChangeSpec := { name := "fnRegisterOnce", fn := fun _ => fun
  | [d] => { results := [.lit (.bool true)], args := [d] }
  | _ => none }
def fnRegisterOnceRow : OpenClaim := { program := "ytjabejljgoafiaa", sum := "0b8cbaacfc28b18ff89602349d283c1cd8be55a0850bcfd36ed5b73f2b3aaecd", func := "loop.example/multipathtransport/laws.FnRegisterOnce", spec := "fnRegisterOnce", inPlace := ["slices.overlaps[loop.example/multipathtransport/impl.Ticket]"], unfollowed := true, recurses := true, apart := false }
def FnRegisterOnceSaid : Prop := fnRegisterOnceRow.holds Try.pinned (OpenSpec.ofChange fnRegisterOnceSpec)

/-- ITS FALSE NEIGHBOUR: 'it returns false'. Refute it at one input. -/
def fnRegisterOnceWrong : ChangeSpec := { name := "fnRegisterOnce", fn := fun _ => fun
  | [d] => { results := [.lit (.bool false)], args := [d] }
  | _ => none }
def FnRegisterOnceWrongFalsely : Prop := fnRegisterOnceRow.holds Try.pinned (OpenSpec.ofChange fnRegisterOnceWrong)

/-- 'laws.FnRegisterAccept': WHATEVER THE INPUT: true; the input reads as it did. -/
def fnRegisterAcceptSpec : ChangeSpec := { name := "fnRegisterAccept", fn := fun _ => fun
  | [d] => { results := [.lit (.bool true)], args := [d] }
  | _ => none }
def fnRegisterAcceptRow : OpenClaim := { program := "ytjabejljgoafiaa", sum := "0b8cbaacfc28b18ff89602349d283c1cd8be55a0850bcfd36ed5b73f2b3aaecd", func := "loop.example/multipathtransport/laws.FnRegisterAccept", spec := "fnRegisterAccept", inPlace := ["slices.overlaps[loop.example/multipathtransport/impl.Ticket]"], unfollowed := true, recurses := true, apart := false }
def FnRegisterAcceptSaid : Prop := fnRegisterAcceptRow.holds Try.pinned (OpenSpec.ofChange fnRegisterAcceptSpec)

/-- ITS FALSE NEIGHBOUR: 'it returns false'. Refute it at one input. -/
def fnRegisterAcceptWrong : ChangeSpec := { name := "fnRegisterAccept", fn := fun _ => fun
  | [d] => { results := [.lit (.bool false)], args := [d] }
  | _ => none }
def FnRegisterAcceptWrongFalsely : Prop := fnRegisterAcceptRow.holds Try.pinned (OpenSpec.ofChange fnRegisterAcceptWrong)

/-- 'laws.FnRegisterReject': WHATEVER THE INPUT: true; the input reads as it did. -/
def fnRegisterRejectSpec : ChangeSpec := { name := "fnRegisterReject", fn := fun _ => fun
  | [d] => { results := [.lit (.bool true)], args := [d] }
  | _ => none }
def fnRegisterRejectRow : OpenClaim := { program := "ytjabejljgoafiaa", sum := "0b8cbaacfc28b18ff89602349d283c1cd8be55a0850bcfd36ed5b73f2b3aaecd", func := "loop.example/multipathtransport/laws.FnRegisterReject", spec := "fnRegisterReject", inPlace := ["slices.overlaps[loop.example/multipathtransport/impl.Ticket]"], unfollowed := true, recurses := true, apart := false }
def FnRegisterRejectSaid : Prop := fnRegisterRejectRow.holds Try.pinned (OpenSpec.ofChange fnRegisterRejectSpec)

/-- ITS FALSE NEIGHBOUR: 'it returns false'. Refute it at one input. -/
def fnRegisterRejectWrong : ChangeSpec := { name := "fnRegisterReject", fn := fun _ => fun
  | [d] => { results := [.lit (.bool false)], args := [d] }
  | _ => none }
def FnRegisterRejectWrongFalsely : Prop := fnRegisterRejectRow.holds Try.pinned (OpenSpec.ofChange fnRegisterRejectWrong)

/-- 'laws.FnRegisterForget': WHATEVER THE INPUT: true; the input reads as it did. -/
def fnRegisterForgetSpec : ChangeSpec := { name := "fnRegisterForget", fn := fun _ => fun
  | [d] => { results := [.lit (.bool true)], args := [d] }
  | _ => none }
def fnRegisterForgetRow : OpenClaim := { program := "ytjabejljgoafiaa", sum := "0b8cbaacfc28b18ff89602349d283c1cd8be55a0850bcfd36ed5b73f2b3aaecd", func := "loop.example/multipathtransport/laws.FnRegisterForget", spec := "fnRegisterForget", inPlace := ["slices.overlaps[loop.example/multipathtransport/impl.Ticket]"], unfollowed := true, recurses := true, apart := false }
def FnRegisterForgetSaid : Prop := fnRegisterForgetRow.holds Try.pinned (OpenSpec.ofChange fnRegisterForgetSpec)

/-- ITS FALSE NEIGHBOUR: 'it returns false'. Refute it at one input. -/
def fnRegisterForgetWrong : ChangeSpec := { name := "fnRegisterForget", fn := fun _ => fun
  | [d] => { results := [.lit (.bool false)], args := [d] }
  | _ => none }
def FnRegisterForgetWrongFalsely : Prop := fnRegisterForgetRow.holds Try.pinned (OpenSpec.ofChange fnRegisterForgetWrong)

/-- 'laws.FnRegisterTicks': WHATEVER THE INPUT: true; the input reads as it did. -/
def fnRegisterTicksSpec : ChangeSpec := { name := "fnRegisterTicks", fn := fun _ => fun
  | [d1, d2] => { results := [.lit (.bool true)], args := [d1, d2] }
  | _ => none }
def fnRegisterTicksRow : OpenClaim := { program := "ytjabejljgoafiaa", sum := "0b8cbaacfc28b18ff89602349d283c1cd8be55a0850bcfd36ed5b73f2b3aaecd", func := "loop.example/multipathtransport/laws.FnRegisterTicks", spec := "fnRegisterTicks", unfollowed := true, recurses := true, apart := false }
def FnRegisterTicksSaid : Prop := fnRegisterTicksRow.holds Try.pinned (OpenSpec.ofChange fnRegisterTicksSpec)

/-- ITS FALSE NEIGHBOUR: 'it returns false'. Refute it at one input. -/
def fnRegisterTicksWrong : ChangeSpec := { name := "fnRegisterTicks", fn := fun _ => fun
  | [d1, d2] => { results := [.lit (.bool false)], args := [d1, d2] }
  | _ => none }
def FnRegisterTicksWrongFalsely : Prop := fnRegisterTicksRow.holds Try.pinned (OpenSpec.ofChange fnRegisterTicksWrong)

/-- 'laws.FnRegisterOrder': WHATEVER THE INPUT: true; the input reads as it did. -/
def fnRegisterOrderSpec : ChangeSpec := { name := "fnRegisterOrder", fn := fun _ => fun
  | [d1, d2] => { results := [.lit (.bool true)], args := [d1, d2] }
  | _ => none }
def fnRegisterOrderRow : OpenClaim := { program := "ytjabejljgoafiaa", sum := "0b8cbaacfc28b18ff89602349d283c1cd8be55a0850bcfd36ed5b73f2b3aaecd", func := "loop.example/multipathtransport/laws.FnRegisterOrder", spec := "fnRegisterOrder", inPlace := ["slices.overlaps[loop.example/multipathtransport/impl.Ticket]"], unfollowed := true, recurses := true, apart := false }
def FnRegisterOrderSaid : Prop := fnRegisterOrderRow.holds Try.pinned (OpenSpec.ofChange fnRegisterOrderSpec)

/-- ITS FALSE NEIGHBOUR: 'it returns false'. Refute it at one input. -/
def fnRegisterOrderWrong : ChangeSpec := { name := "fnRegisterOrder", fn := fun _ => fun
  | [d1, d2] => { results := [.lit (.bool false)], args := [d1, d2] }
  | _ => none }
def FnRegisterOrderWrongFalsely : Prop := fnRegisterOrderRow.holds Try.pinned (OpenSpec.ofChange fnRegisterOrderWrong)

/-- 'laws.FnRegisterFull': WHATEVER THE INPUT: true; the input reads as it did. -/
def fnRegisterFullSpec : ChangeSpec := { name := "fnRegisterFull", fn := fun _ => fun
  | [d] => { results := [.lit (.bool true)], args := [d] }
  | _ => none }
def fnRegisterFullRow : OpenClaim := { program := "ytjabejljgoafiaa", sum := "0b8cbaacfc28b18ff89602349d283c1cd8be55a0850bcfd36ed5b73f2b3aaecd", func := "loop.example/multipathtransport/laws.FnRegisterFull", spec := "fnRegisterFull", inPlace := ["slices.overlaps[loop.example/multipathtransport/impl.Ticket]"], unfollowed := true, recurses := true, apart := false }
def FnRegisterFullSaid : Prop := fnRegisterFullRow.holds Try.pinned (OpenSpec.ofChange fnRegisterFullSpec)

/-- ITS FALSE NEIGHBOUR: 'it returns false'. Refute it at one input. -/
def fnRegisterFullWrong : ChangeSpec := { name := "fnRegisterFull", fn := fun _ => fun
  | [d] => { results := [.lit (.bool false)], args := [d] }
  | _ => none }
def FnRegisterFullWrongFalsely : Prop := fnRegisterFullRow.holds Try.pinned (OpenSpec.ofChange fnRegisterFullWrong)

/-- 'laws.FnTicketHome': WHATEVER THE INPUT: true; the input reads as it did. -/
def fnTicketHomeSpec : ChangeSpec := { name := "fnTicketHome", fn := fun _ => fun
  | [d1, d2] => { results := [.lit (.bool true)], args := [d1, d2] }
  | _ => none }
def fnTicketHomeRow : OpenClaim := { program := "ytjabejljgoafiaa", sum := "0b8cbaacfc28b18ff89602349d283c1cd8be55a0850bcfd36ed5b73f2b3aaecd", func := "loop.example/multipathtransport/laws.FnTicketHome", spec := "fnTicketHome", apart := false }
def FnTicketHomeSaid : Prop := fnTicketHomeRow.holds Try.pinned (OpenSpec.ofChange fnTicketHomeSpec)

/-- ITS FALSE NEIGHBOUR: 'it returns false'. Refute it at one input. -/
def fnTicketHomeWrong : ChangeSpec := { name := "fnTicketHome", fn := fun _ => fun
  | [d1, d2] => { results := [.lit (.bool false)], args := [d1, d2] }
  | _ => none }
def FnTicketHomeWrongFalsely : Prop := fnTicketHomeRow.holds Try.pinned (OpenSpec.ofChange fnTicketHomeWrong)

/-- 'laws.FnServersHome': WHATEVER THE INPUT: true; the input reads as it did. -/
def fnServersHomeSpec : ChangeSpec := { name := "fnServersHome", fn := fun _ => fun
  | [d] => { results := [.lit (.bool true)], args := [d] }
  | _ => none }
def fnServersHomeRow : OpenClaim := { program := "ytjabejljgoafiaa", sum := "0b8cbaacfc28b18ff89602349d283c1cd8be55a0850bcfd36ed5b73f2b3aaecd", func := "loop.example/multipathtransport/laws.FnServersHome", spec := "fnServersHome", inPlace := ["slices.overlaps[loop.example/multipathtransport/impl.Ticket]"], unfollowed := true, recurses := true, apart := false }
def FnServersHomeSaid : Prop := fnServersHomeRow.holds Try.pinned (OpenSpec.ofChange fnServersHomeSpec)

/-- ITS FALSE NEIGHBOUR: 'it returns false'. Refute it at one input. -/
def fnServersHomeWrong : ChangeSpec := { name := "fnServersHome", fn := fun _ => fun
  | [d] => { results := [.lit (.bool false)], args := [d] }
  | _ => none }
def FnServersHomeWrongFalsely : Prop := fnServersHomeRow.holds Try.pinned (OpenSpec.ofChange fnServersHomeWrong)

/-- 'laws.FnServersOnce': WHATEVER THE INPUT: true; the input reads as it did. -/
def fnServersOnceSpec : ChangeSpec := { name := "fnServersOnce", fn := fun _ => fun
  | [d] => { results := [.lit (.bool true)], args := [d] }
  | _ => none }
def fnServersOnceRow : OpenClaim := { program := "ytjabejljgoafiaa", sum := "0b8cbaacfc28b18ff89602349d283c1cd8be55a0850bcfd36ed5b73f2b3aaecd", func := "loop.example/multipathtransport/laws.FnServersOnce", spec := "fnServersOnce", inPlace := ["slices.overlaps[loop.example/multipathtransport/impl.Ticket]"], unfollowed := true, recurses := true, apart := false }
def FnServersOnceSaid : Prop := fnServersOnceRow.holds Try.pinned (OpenSpec.ofChange fnServersOnceSpec)

/-- ITS FALSE NEIGHBOUR: 'it returns false'. Refute it at one input. -/
def fnServersOnceWrong : ChangeSpec := { name := "fnServersOnce", fn := fun _ => fun
  | [d] => { results := [.lit (.bool false)], args := [d] }
  | _ => none }
def FnServersOnceWrongFalsely : Prop := fnServersOnceRow.holds Try.pinned (OpenSpec.ofChange fnServersOnceWrong)

/-- 'laws.FnServersReplay': WHATEVER THE INPUT: true; the input reads as it did. -/
def fnServersReplaySpec : ChangeSpec := { name := "fnServersReplay", fn := fun _ => fun
  | [d] => { results := [.lit (.bool true)], args := [d] }
  | _ => none }
def fnServersReplayRow : OpenClaim := { program := "ytjabejljgoafiaa", sum := "0b8cbaacfc28b18ff89602349d283c1cd8be55a0850bcfd36ed5b73f2b3aaecd", func := "loop.example/multipathtransport/laws.FnServersReplay", spec := "fnServersReplay", inPlace := ["slices.overlaps[loop.example/multipathtransport/impl.Ticket]"], unfollowed := true, recurses := true, apart := false }
def FnServersReplaySaid : Prop := fnServersReplayRow.holds Try.pinned (OpenSpec.ofChange fnServersReplaySpec)

/-- ITS FALSE NEIGHBOUR: 'it returns false'. Refute it at one input. -/
def fnServersReplayWrong : ChangeSpec := { name := "fnServersReplay", fn := fun _ => fun
  | [d] => { results := [.lit (.bool false)], args := [d] }
  | _ => none }
def FnServersReplayWrongFalsely : Prop := fnServersReplayRow.holds Try.pinned (OpenSpec.ofChange fnServersReplayWrong)

/-- 'laws.FnServersReject': WHATEVER THE INPUT: true; the input reads as it did. -/
def fnServersRejectSpec : ChangeSpec := { name := "fnServersReject", fn := fun _ => fun
  | [d] => { results := [.lit (.bool true)], args := [d] }
  | _ => none }
def fnServersRejectRow : OpenClaim := { program := "ytjabejljgoafiaa", sum := "0b8cbaacfc28b18ff89602349d283c1cd8be55a0850bcfd36ed5b73f2b3aaecd", func := "loop.example/multipathtransport/laws.FnServersReject", spec := "fnServersReject", inPlace := ["slices.overlaps[loop.example/multipathtransport/impl.Ticket]"], unfollowed := true, recurses := true, apart := false }
def FnServersRejectSaid : Prop := fnServersRejectRow.holds Try.pinned (OpenSpec.ofChange fnServersRejectSpec)

/-- ITS FALSE NEIGHBOUR: 'it returns false'. Refute it at one input. -/
def fnServersRejectWrong : ChangeSpec := { name := "fnServersReject", fn := fun _ => fun
  | [d] => { results := [.lit (.bool false)], args := [d] }
  | _ => none }
def FnServersRejectWrongFalsely : Prop := fnServersRejectRow.holds Try.pinned (OpenSpec.ofChange fnServersRejectWrong)

/- THE SECOND FORM. 'bulk': how many values and letters a reading holds, each counted each time it is reached (what is shared counts as often as it is met; a slice's spare places count too). A statement '..UptoSaid' is the law's where the arguments, and the package variables that the reading takes, are together of bulk at most 1048576: NARROWER than '..Said'. Prove '..Said' where nothing that the law and all that it calls make is longer than what came in: it says more and counts as full. Else prove '..UptoSaid'. A law counts once. -/
mutual
def uptoBulk {H : Type} : DataW H → Nat
  | .lit (.string bytes) => bytes.length + 1
  | .lit _ => 1
  | .nil => 1
  | .ptr d => uptoBulk d + 1
  | .slice elems spare => uptoBulkAll elems + uptoBulkAll spare + 1
  | .agg parts => uptoBulkAll parts + 1
  | .iface _ d => uptoBulk d + 1
  | .map entries => uptoBulkEntries entries + 1
  | .held _ => 1
def uptoBulkAll {H : Type} : List (DataW H) → Nat
  | [] => 0
  | d :: r => uptoBulk d + uptoBulkAll r
def uptoBulkEntries {H : Type} : List (Lit × DataW H) → Nat
  | [] => 0
  | x :: r => uptoBulkEntry x + uptoBulkEntries r
def uptoBulkEntry {H : Type} : Lit × DataW H → Nat
  | (.string bytes, d) => bytes.length + uptoBulk d + 1
  | (_, d) => uptoBulk d + 1
 end
def uptoSmall : (H : Type) → List (DataW H) → Bool := fun _ ds => decide (uptoBulkAll ds ≤ 1048576)
def OpenSpec.upto (s : _root_.Go.ChangeSpec) : _root_.Go.OpenSpec := { _root_.Go.OpenSpec.ofChange s with cond := some uptoSmall }

/-- 'laws.FnRegisterOnce', WHERE WHAT IT READS IS OF BULK AT MOST 1048576: true; the input reads as it did. -/
def fnRegisterOnceUptoRow : OpenClaim := { program := "ytjabejljgoafiaa", sum := "0b8cbaacfc28b18ff89602349d283c1cd8be55a0850bcfd36ed5b73f2b3aaecd", func := "loop.example/multipathtransport/laws.FnRegisterOnce", spec := "fnRegisterOnce", inPlace := ["slices.overlaps[loop.example/multipathtransport/impl.Ticket]"], unfollowed := true, recurses := true, apart := false, narrowed := true }
def FnRegisterOnceUptoSaid : Prop := fnRegisterOnceUptoRow.holds Try.pinned (OpenSpec.upto fnRegisterOnceSpec)

/-- 'laws.FnRegisterAccept', WHERE WHAT IT READS IS OF BULK AT MOST 1048576: true; the input reads as it did. -/
def fnRegisterAcceptUptoRow : OpenClaim := { program := "ytjabejljgoafiaa", sum := "0b8cbaacfc28b18ff89602349d283c1cd8be55a0850bcfd36ed5b73f2b3aaecd", func := "loop.example/multipathtransport/laws.FnRegisterAccept", spec := "fnRegisterAccept", inPlace := ["slices.overlaps[loop.example/multipathtransport/impl.Ticket]"], unfollowed := true, recurses := true, apart := false, narrowed := true }
def FnRegisterAcceptUptoSaid : Prop := fnRegisterAcceptUptoRow.holds Try.pinned (OpenSpec.upto fnRegisterAcceptSpec)

/-- 'laws.FnRegisterReject', WHERE WHAT IT READS IS OF BULK AT MOST 1048576: true; the input reads as it did. -/
def fnRegisterRejectUptoRow : OpenClaim := { program := "ytjabejljgoafiaa", sum := "0b8cbaacfc28b18ff89602349d283c1cd8be55a0850bcfd36ed5b73f2b3aaecd", func := "loop.example/multipathtransport/laws.FnRegisterReject", spec := "fnRegisterReject", inPlace := ["slices.overlaps[loop.example/multipathtransport/impl.Ticket]"], unfollowed := true, recurses := true, apart := false, narrowed := true }
def FnRegisterRejectUptoSaid : Prop := fnRegisterRejectUptoRow.holds Try.pinned (OpenSpec.upto fnRegisterRejectSpec)

/-- 'laws.FnRegisterForget', WHERE WHAT IT READS IS OF BULK AT MOST 1048576: true; the input reads as it did. -/
def fnRegisterForgetUptoRow : OpenClaim := { program := "ytjabejljgoafiaa", sum := "0b8cbaacfc28b18ff89602349d283c1cd8be55a0850bcfd36ed5b73f2b3aaecd", func := "loop.example/multipathtransport/laws.FnRegisterForget", spec := "fnRegisterForget", inPlace := ["slices.overlaps[loop.example/multipathtransport/impl.Ticket]"], unfollowed := true, recurses := true, apart := false, narrowed := true }
def FnRegisterForgetUptoSaid : Prop := fnRegisterForgetUptoRow.holds Try.pinned (OpenSpec.upto fnRegisterForgetSpec)

/-- 'laws.FnRegisterTicks', WHERE WHAT IT READS IS OF BULK AT MOST 1048576: true; the input reads as it did. -/
def fnRegisterTicksUptoRow : OpenClaim := { program := "ytjabejljgoafiaa", sum := "0b8cbaacfc28b18ff89602349d283c1cd8be55a0850bcfd36ed5b73f2b3aaecd", func := "loop.example/multipathtransport/laws.FnRegisterTicks", spec := "fnRegisterTicks", unfollowed := true, recurses := true, apart := false, narrowed := true }
def FnRegisterTicksUptoSaid : Prop := fnRegisterTicksUptoRow.holds Try.pinned (OpenSpec.upto fnRegisterTicksSpec)

/-- 'laws.FnRegisterOrder', WHERE WHAT IT READS IS OF BULK AT MOST 1048576: true; the input reads as it did. -/
def fnRegisterOrderUptoRow : OpenClaim := { program := "ytjabejljgoafiaa", sum := "0b8cbaacfc28b18ff89602349d283c1cd8be55a0850bcfd36ed5b73f2b3aaecd", func := "loop.example/multipathtransport/laws.FnRegisterOrder", spec := "fnRegisterOrder", inPlace := ["slices.overlaps[loop.example/multipathtransport/impl.Ticket]"], unfollowed := true, recurses := true, apart := false, narrowed := true }
def FnRegisterOrderUptoSaid : Prop := fnRegisterOrderUptoRow.holds Try.pinned (OpenSpec.upto fnRegisterOrderSpec)

/-- 'laws.FnRegisterFull', WHERE WHAT IT READS IS OF BULK AT MOST 1048576: true; the input reads as it did. -/
def fnRegisterFullUptoRow : OpenClaim := { program := "ytjabejljgoafiaa", sum := "0b8cbaacfc28b18ff89602349d283c1cd8be55a0850bcfd36ed5b73f2b3aaecd", func := "loop.example/multipathtransport/laws.FnRegisterFull", spec := "fnRegisterFull", inPlace := ["slices.overlaps[loop.example/multipathtransport/impl.Ticket]"], unfollowed := true, recurses := true, apart := false, narrowed := true }
def FnRegisterFullUptoSaid : Prop := fnRegisterFullUptoRow.holds Try.pinned (OpenSpec.upto fnRegisterFullSpec)

/-- 'laws.FnTicketHome', WHERE WHAT IT READS IS OF BULK AT MOST 1048576: true; the input reads as it did. -/
def fnTicketHomeUptoRow : OpenClaim := { program := "ytjabejljgoafiaa", sum := "0b8cbaacfc28b18ff89602349d283c1cd8be55a0850bcfd36ed5b73f2b3aaecd", func := "loop.example/multipathtransport/laws.FnTicketHome", spec := "fnTicketHome", apart := false, narrowed := true }
def FnTicketHomeUptoSaid : Prop := fnTicketHomeUptoRow.holds Try.pinned (OpenSpec.upto fnTicketHomeSpec)

/-- 'laws.FnServersHome', WHERE WHAT IT READS IS OF BULK AT MOST 1048576: true; the input reads as it did. -/
def fnServersHomeUptoRow : OpenClaim := { program := "ytjabejljgoafiaa", sum := "0b8cbaacfc28b18ff89602349d283c1cd8be55a0850bcfd36ed5b73f2b3aaecd", func := "loop.example/multipathtransport/laws.FnServersHome", spec := "fnServersHome", inPlace := ["slices.overlaps[loop.example/multipathtransport/impl.Ticket]"], unfollowed := true, recurses := true, apart := false, narrowed := true }
def FnServersHomeUptoSaid : Prop := fnServersHomeUptoRow.holds Try.pinned (OpenSpec.upto fnServersHomeSpec)

/-- 'laws.FnServersOnce', WHERE WHAT IT READS IS OF BULK AT MOST 1048576: true; the input reads as it did. -/
def fnServersOnceUptoRow : OpenClaim := { program := "ytjabejljgoafiaa", sum := "0b8cbaacfc28b18ff89602349d283c1cd8be55a0850bcfd36ed5b73f2b3aaecd", func := "loop.example/multipathtransport/laws.FnServersOnce", spec := "fnServersOnce", inPlace := ["slices.overlaps[loop.example/multipathtransport/impl.Ticket]"], unfollowed := true, recurses := true, apart := false, narrowed := true }
def FnServersOnceUptoSaid : Prop := fnServersOnceUptoRow.holds Try.pinned (OpenSpec.upto fnServersOnceSpec)

/-- 'laws.FnServersReplay', WHERE WHAT IT READS IS OF BULK AT MOST 1048576: true; the input reads as it did. -/
def fnServersReplayUptoRow : OpenClaim := { program := "ytjabejljgoafiaa", sum := "0b8cbaacfc28b18ff89602349d283c1cd8be55a0850bcfd36ed5b73f2b3aaecd", func := "loop.example/multipathtransport/laws.FnServersReplay", spec := "fnServersReplay", inPlace := ["slices.overlaps[loop.example/multipathtransport/impl.Ticket]"], unfollowed := true, recurses := true, apart := false, narrowed := true }
def FnServersReplayUptoSaid : Prop := fnServersReplayUptoRow.holds Try.pinned (OpenSpec.upto fnServersReplaySpec)

/-- 'laws.FnServersReject', WHERE WHAT IT READS IS OF BULK AT MOST 1048576: true; the input reads as it did. -/
def fnServersRejectUptoRow : OpenClaim := { program := "ytjabejljgoafiaa", sum := "0b8cbaacfc28b18ff89602349d283c1cd8be55a0850bcfd36ed5b73f2b3aaecd", func := "loop.example/multipathtransport/laws.FnServersReject", spec := "fnServersReject", inPlace := ["slices.overlaps[loop.example/multipathtransport/impl.Ticket]"], unfollowed := true, recurses := true, apart := false, narrowed := true }
def FnServersRejectUptoSaid : Prop := fnServersRejectUptoRow.holds Try.pinned (OpenSpec.upto fnServersRejectSpec)

end Rows
end Go.Proofs.Ytjabejljgoafiaa
