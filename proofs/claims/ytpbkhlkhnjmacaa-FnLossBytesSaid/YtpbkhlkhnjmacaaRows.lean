/-
  No cell of these rows narrows 'for every input' (looked for: loops, veiled, ifaces, maps, wideKeys, modest, calm, conditions, laid).
  DERIVED. THE GIVEN ROWS OF THIS SEAT. 13 by the template 'for every input the law returns true; each argument reads behind the call as it read before'; 0 by the template 'total and deterministic' (their statements: YtpbkhlkhnjmacaaTotals.lean).
  GIVEN WITH THE SEED: the statements are not yours to turn. If you find one false, say at which input.
  Laid BY PROGRAM, IN A SANDBOX (cutbox-rows.mjs): the forced cells as the released guide's own fill.sh prints them over the translation e37f8176ca69e9f3… (all of the seat's roots in one cut). By AI agents, Wed Nov 11 2026. No macro, syntax, notation, axiom, sorry.
-/
import Derived.Test.YtpbkhlkhnjmacaaChecked
import GoSem.Claim
import GoSem.ClaimJoined
import GoSem.ClaimMapViews
import Derived.JoinedTies
import Derived.KernelRfl
namespace Go.Proofs.Ytpbkhlkhnjmacaa
/- THE CELL 'sum', in the pinned program and in every row, IS THE sha256 OF THE DUMP (.gsa) THAT YtpbkhlkhnjmacaaProg.lean LOADS. Nothing in Lean hashes anything: it is a label: what it is worth is what the hold of that sum in a sandbox is worth. -/
noncomputable def Try.pinned : Pinned := { name := "ytpbkhlkhnjmacaa", sum := "e37f8176ca69e9f3f25de1390aa983bd4e009e31828442a62e235a52a55b8ae2", checked := Try.checked }
namespace Rows
def none {H : Type} : Left H := { results := [], args := [] }

/-- 'laws.FnLossNew': WHATEVER THE INPUT: true; the input reads as it did. -/
def fnLossNewSpec : ChangeSpec := { name := "fnLossNew", fn := fun _ => fun
  | [d] => { results := [.lit (.bool true)], args := [d] }
  | _ => none }
def fnLossNewRow : OpenClaim := { program := "ytpbkhlkhnjmacaa", sum := "e37f8176ca69e9f3f25de1390aa983bd4e009e31828442a62e235a52a55b8ae2", func := "loop.example/multipathtransport/laws.FnLossNew", spec := "fnLossNew", apart := false }
def FnLossNewSaid : Prop := fnLossNewRow.holds Try.pinned (OpenSpec.ofChange fnLossNewSpec)

/-- ITS FALSE NEIGHBOUR: 'it returns false'. Refute it at one input. -/
def fnLossNewWrong : ChangeSpec := { name := "fnLossNew", fn := fun _ => fun
  | [d] => { results := [.lit (.bool false)], args := [d] }
  | _ => none }
def FnLossNewWrongFalsely : Prop := fnLossNewRow.holds Try.pinned (OpenSpec.ofChange fnLossNewWrong)

/-- 'laws.FnLossSend': WHATEVER THE INPUT: true; the input reads as it did. -/
def fnLossSendSpec : ChangeSpec := { name := "fnLossSend", fn := fun _ => fun
  | [d] => { results := [.lit (.bool true)], args := [d] }
  | _ => none }
def fnLossSendRow : OpenClaim := { program := "ytpbkhlkhnjmacaa", sum := "e37f8176ca69e9f3f25de1390aa983bd4e009e31828442a62e235a52a55b8ae2", func := "loop.example/multipathtransport/laws.FnLossSend", spec := "fnLossSend", apart := false }
def FnLossSendSaid : Prop := fnLossSendRow.holds Try.pinned (OpenSpec.ofChange fnLossSendSpec)

/-- ITS FALSE NEIGHBOUR: 'it returns false'. Refute it at one input. -/
def fnLossSendWrong : ChangeSpec := { name := "fnLossSend", fn := fun _ => fun
  | [d] => { results := [.lit (.bool false)], args := [d] }
  | _ => none }
def FnLossSendWrongFalsely : Prop := fnLossSendRow.holds Try.pinned (OpenSpec.ofChange fnLossSendWrong)

/-- 'laws.FnLossSendFull': WHATEVER THE INPUT: true; the input reads as it did. -/
def fnLossSendFullSpec : ChangeSpec := { name := "fnLossSendFull", fn := fun _ => fun
  | [d] => { results := [.lit (.bool true)], args := [d] }
  | _ => none }
def fnLossSendFullRow : OpenClaim := { program := "ytpbkhlkhnjmacaa", sum := "e37f8176ca69e9f3f25de1390aa983bd4e009e31828442a62e235a52a55b8ae2", func := "loop.example/multipathtransport/laws.FnLossSendFull", spec := "fnLossSendFull", apart := false }
def FnLossSendFullSaid : Prop := fnLossSendFullRow.holds Try.pinned (OpenSpec.ofChange fnLossSendFullSpec)

/-- ITS FALSE NEIGHBOUR: 'it returns false'. Refute it at one input. -/
def fnLossSendFullWrong : ChangeSpec := { name := "fnLossSendFull", fn := fun _ => fun
  | [d] => { results := [.lit (.bool false)], args := [d] }
  | _ => none }
def FnLossSendFullWrongFalsely : Prop := fnLossSendFullRow.holds Try.pinned (OpenSpec.ofChange fnLossSendFullWrong)

/-- 'laws.FnLossPartition': WHATEVER THE INPUT: true; the input reads as it did. -/
def fnLossPartitionSpec : ChangeSpec := { name := "fnLossPartition", fn := fun _ => fun
  | [d] => { results := [.lit (.bool true)], args := [d] }
  | _ => none }
def fnLossPartitionRow : OpenClaim := { program := "ytpbkhlkhnjmacaa", sum := "e37f8176ca69e9f3f25de1390aa983bd4e009e31828442a62e235a52a55b8ae2", func := "loop.example/multipathtransport/laws.FnLossPartition", spec := "fnLossPartition", unfollowed := true, recurses := true, apart := false }
def FnLossPartitionSaid : Prop := fnLossPartitionRow.holds Try.pinned (OpenSpec.ofChange fnLossPartitionSpec)

/-- ITS FALSE NEIGHBOUR: 'it returns false'. Refute it at one input. -/
def fnLossPartitionWrong : ChangeSpec := { name := "fnLossPartition", fn := fun _ => fun
  | [d] => { results := [.lit (.bool false)], args := [d] }
  | _ => none }
def FnLossPartitionWrongFalsely : Prop := fnLossPartitionRow.holds Try.pinned (OpenSpec.ofChange fnLossPartitionWrong)

/-- 'laws.FnLossAcked': WHATEVER THE INPUT: true; the input reads as it did. -/
def fnLossAckedSpec : ChangeSpec := { name := "fnLossAcked", fn := fun _ => fun
  | [d] => { results := [.lit (.bool true)], args := [d] }
  | _ => none }
def fnLossAckedRow : OpenClaim := { program := "ytpbkhlkhnjmacaa", sum := "e37f8176ca69e9f3f25de1390aa983bd4e009e31828442a62e235a52a55b8ae2", func := "loop.example/multipathtransport/laws.FnLossAcked", spec := "fnLossAcked", unfollowed := true, recurses := true, apart := false }
def FnLossAckedSaid : Prop := fnLossAckedRow.holds Try.pinned (OpenSpec.ofChange fnLossAckedSpec)

/-- ITS FALSE NEIGHBOUR: 'it returns false'. Refute it at one input. -/
def fnLossAckedWrong : ChangeSpec := { name := "fnLossAcked", fn := fun _ => fun
  | [d] => { results := [.lit (.bool false)], args := [d] }
  | _ => none }
def FnLossAckedWrongFalsely : Prop := fnLossAckedRow.holds Try.pinned (OpenSpec.ofChange fnLossAckedWrong)

/-- 'laws.FnLossLost': WHATEVER THE INPUT: true; the input reads as it did. -/
def fnLossLostSpec : ChangeSpec := { name := "fnLossLost", fn := fun _ => fun
  | [d] => { results := [.lit (.bool true)], args := [d] }
  | _ => none }
def fnLossLostRow : OpenClaim := { program := "ytpbkhlkhnjmacaa", sum := "e37f8176ca69e9f3f25de1390aa983bd4e009e31828442a62e235a52a55b8ae2", func := "loop.example/multipathtransport/laws.FnLossLost", spec := "fnLossLost", unfollowed := true, recurses := true, apart := false }
def FnLossLostSaid : Prop := fnLossLostRow.holds Try.pinned (OpenSpec.ofChange fnLossLostSpec)

/-- ITS FALSE NEIGHBOUR: 'it returns false'. Refute it at one input. -/
def fnLossLostWrong : ChangeSpec := { name := "fnLossLost", fn := fun _ => fun
  | [d] => { results := [.lit (.bool false)], args := [d] }
  | _ => none }
def FnLossLostWrongFalsely : Prop := fnLossLostRow.holds Try.pinned (OpenSpec.ofChange fnLossLostWrong)

/-- 'laws.FnLossKept': WHATEVER THE INPUT: true; the input reads as it did. -/
def fnLossKeptSpec : ChangeSpec := { name := "fnLossKept", fn := fun _ => fun
  | [d] => { results := [.lit (.bool true)], args := [d] }
  | _ => none }
def fnLossKeptRow : OpenClaim := { program := "ytpbkhlkhnjmacaa", sum := "e37f8176ca69e9f3f25de1390aa983bd4e009e31828442a62e235a52a55b8ae2", func := "loop.example/multipathtransport/laws.FnLossKept", spec := "fnLossKept", unfollowed := true, recurses := true, apart := false }
def FnLossKeptSaid : Prop := fnLossKeptRow.holds Try.pinned (OpenSpec.ofChange fnLossKeptSpec)

/-- ITS FALSE NEIGHBOUR: 'it returns false'. Refute it at one input. -/
def fnLossKeptWrong : ChangeSpec := { name := "fnLossKept", fn := fun _ => fun
  | [d] => { results := [.lit (.bool false)], args := [d] }
  | _ => none }
def FnLossKeptWrongFalsely : Prop := fnLossKeptRow.holds Try.pinned (OpenSpec.ofChange fnLossKeptWrong)

/-- 'laws.FnLossTwice': WHATEVER THE INPUT: true; the input reads as it did. -/
def fnLossTwiceSpec : ChangeSpec := { name := "fnLossTwice", fn := fun _ => fun
  | [d] => { results := [.lit (.bool true)], args := [d] }
  | _ => none }
def fnLossTwiceRow : OpenClaim := { program := "ytpbkhlkhnjmacaa", sum := "e37f8176ca69e9f3f25de1390aa983bd4e009e31828442a62e235a52a55b8ae2", func := "loop.example/multipathtransport/laws.FnLossTwice", spec := "fnLossTwice", unfollowed := true, recurses := true, apart := false }
def FnLossTwiceSaid : Prop := fnLossTwiceRow.holds Try.pinned (OpenSpec.ofChange fnLossTwiceSpec)

/-- ITS FALSE NEIGHBOUR: 'it returns false'. Refute it at one input. -/
def fnLossTwiceWrong : ChangeSpec := { name := "fnLossTwice", fn := fun _ => fun
  | [d] => { results := [.lit (.bool false)], args := [d] }
  | _ => none }
def FnLossTwiceWrongFalsely : Prop := fnLossTwiceRow.holds Try.pinned (OpenSpec.ofChange fnLossTwiceWrong)

/-- 'laws.FnLossLargest': WHATEVER THE INPUT: true; the input reads as it did. -/
def fnLossLargestSpec : ChangeSpec := { name := "fnLossLargest", fn := fun _ => fun
  | [d] => { results := [.lit (.bool true)], args := [d] }
  | _ => none }
def fnLossLargestRow : OpenClaim := { program := "ytpbkhlkhnjmacaa", sum := "e37f8176ca69e9f3f25de1390aa983bd4e009e31828442a62e235a52a55b8ae2", func := "loop.example/multipathtransport/laws.FnLossLargest", spec := "fnLossLargest", unfollowed := true, recurses := true, apart := false }
def FnLossLargestSaid : Prop := fnLossLargestRow.holds Try.pinned (OpenSpec.ofChange fnLossLargestSpec)

/-- ITS FALSE NEIGHBOUR: 'it returns false'. Refute it at one input. -/
def fnLossLargestWrong : ChangeSpec := { name := "fnLossLargest", fn := fun _ => fun
  | [d] => { results := [.lit (.bool false)], args := [d] }
  | _ => none }
def FnLossLargestWrongFalsely : Prop := fnLossLargestRow.holds Try.pinned (OpenSpec.ofChange fnLossLargestWrong)

/-- 'laws.FnLossUnsent': WHATEVER THE INPUT: true; the input reads as it did. -/
def fnLossUnsentSpec : ChangeSpec := { name := "fnLossUnsent", fn := fun _ => fun
  | [d] => { results := [.lit (.bool true)], args := [d] }
  | _ => none }
def fnLossUnsentRow : OpenClaim := { program := "ytpbkhlkhnjmacaa", sum := "e37f8176ca69e9f3f25de1390aa983bd4e009e31828442a62e235a52a55b8ae2", func := "loop.example/multipathtransport/laws.FnLossUnsent", spec := "fnLossUnsent", unfollowed := true, recurses := true, apart := false }
def FnLossUnsentSaid : Prop := fnLossUnsentRow.holds Try.pinned (OpenSpec.ofChange fnLossUnsentSpec)

/-- ITS FALSE NEIGHBOUR: 'it returns false'. Refute it at one input. -/
def fnLossUnsentWrong : ChangeSpec := { name := "fnLossUnsent", fn := fun _ => fun
  | [d] => { results := [.lit (.bool false)], args := [d] }
  | _ => none }
def FnLossUnsentWrongFalsely : Prop := fnLossUnsentRow.holds Try.pinned (OpenSpec.ofChange fnLossUnsentWrong)

/-- 'laws.FnLossBytes': WHATEVER THE INPUT: true; the input reads as it did. -/
def fnLossBytesSpec : ChangeSpec := { name := "fnLossBytes", fn := fun _ => fun
  | [d] => { results := [.lit (.bool true)], args := [d] }
  | _ => none }
def fnLossBytesRow : OpenClaim := { program := "ytpbkhlkhnjmacaa", sum := "e37f8176ca69e9f3f25de1390aa983bd4e009e31828442a62e235a52a55b8ae2", func := "loop.example/multipathtransport/laws.FnLossBytes", spec := "fnLossBytes", unfollowed := true, recurses := true, apart := false }
def FnLossBytesSaid : Prop := fnLossBytesRow.holds Try.pinned (OpenSpec.ofChange fnLossBytesSpec)

/-- ITS FALSE NEIGHBOUR: 'it returns false'. Refute it at one input. -/
def fnLossBytesWrong : ChangeSpec := { name := "fnLossBytes", fn := fun _ => fun
  | [d] => { results := [.lit (.bool false)], args := [d] }
  | _ => none }
def FnLossBytesWrongFalsely : Prop := fnLossBytesRow.holds Try.pinned (OpenSpec.ofChange fnLossBytesWrong)

/-- 'laws.FnLossTimer': WHATEVER THE INPUT: true; the input reads as it did. -/
def fnLossTimerSpec : ChangeSpec := { name := "fnLossTimer", fn := fun _ => fun
  | [d] => { results := [.lit (.bool true)], args := [d] }
  | _ => none }
def fnLossTimerRow : OpenClaim := { program := "ytpbkhlkhnjmacaa", sum := "e37f8176ca69e9f3f25de1390aa983bd4e009e31828442a62e235a52a55b8ae2", func := "loop.example/multipathtransport/laws.FnLossTimer", spec := "fnLossTimer", unfollowed := true, recurses := true, apart := false }
def FnLossTimerSaid : Prop := fnLossTimerRow.holds Try.pinned (OpenSpec.ofChange fnLossTimerSpec)

/-- ITS FALSE NEIGHBOUR: 'it returns false'. Refute it at one input. -/
def fnLossTimerWrong : ChangeSpec := { name := "fnLossTimer", fn := fun _ => fun
  | [d] => { results := [.lit (.bool false)], args := [d] }
  | _ => none }
def FnLossTimerWrongFalsely : Prop := fnLossTimerRow.holds Try.pinned (OpenSpec.ofChange fnLossTimerWrong)

/-- 'laws.FnLossAll': WHATEVER THE INPUT: true; the input reads as it did. -/
def fnLossAllSpec : ChangeSpec := { name := "fnLossAll", fn := fun _ => fun
  | [d] => { results := [.lit (.bool true)], args := [d] }
  | _ => none }
def fnLossAllRow : OpenClaim := { program := "ytpbkhlkhnjmacaa", sum := "e37f8176ca69e9f3f25de1390aa983bd4e009e31828442a62e235a52a55b8ae2", func := "loop.example/multipathtransport/laws.FnLossAll", spec := "fnLossAll", unfollowed := true, recurses := true, apart := false }
def FnLossAllSaid : Prop := fnLossAllRow.holds Try.pinned (OpenSpec.ofChange fnLossAllSpec)

/-- ITS FALSE NEIGHBOUR: 'it returns false'. Refute it at one input. -/
def fnLossAllWrong : ChangeSpec := { name := "fnLossAll", fn := fun _ => fun
  | [d] => { results := [.lit (.bool false)], args := [d] }
  | _ => none }
def FnLossAllWrongFalsely : Prop := fnLossAllRow.holds Try.pinned (OpenSpec.ofChange fnLossAllWrong)

/- THE SECOND FORM. 'bulk': how many values and letters a reading holds, each counted each time it is reached (what is shared counts as often as it is met; a slice's spare places count too). A statement '..UptoSaid' is the law's where the arguments, and the package variables that the reading takes, are together of bulk at most 1048576: NARROWER than '..Said'. Prove '..Said' where nothing that the law and all that it calls make is longer than what came in: it says more and counts as full. Else prove '..UptoSaid'. A law counts once. -/
mutual
def uptoBulk {H : Type} : DataW H → Nat
  | .lit (.string bytes) => bytes.length + 1
  | .lit _ => 1
  | .nil => 1
  | .ptr d => uptoBulk d + 1
  | .slice elems spare => uptoBulkAll elems + uptoBulkAll spare + 1
  | .agg parts => uptoBulkAll parts + 1
  | .iface _ d => uptoBulk d + 1
  | .map entries => uptoBulkEntries entries + 1
  | .held _ => 1
def uptoBulkAll {H : Type} : List (DataW H) → Nat
  | [] => 0
  | d :: r => uptoBulk d + uptoBulkAll r
def uptoBulkEntries {H : Type} : List (Lit × DataW H) → Nat
  | [] => 0
  | x :: r => uptoBulkEntry x + uptoBulkEntries r
def uptoBulkEntry {H : Type} : Lit × DataW H → Nat
  | (.string bytes, d) => bytes.length + uptoBulk d + 1
  | (_, d) => uptoBulk d + 1
 end
def uptoSmall : (H : Type) → List (DataW H) → Bool := fun _ ds => decide (uptoBulkAll ds ≤ 1048576)
def OpenSpec.upto (s : _root_.Go.ChangeSpec) : _root_.Go.OpenSpec := { _root_.Go.OpenSpec.ofChange s with cond := some uptoSmall }

/-- 'laws.FnLossNew', WHERE WHAT IT READS IS OF BULK AT MOST 1048576: true; the input reads as it did. -/
def fnLossNewUptoRow : OpenClaim := { program := "ytpbkhlkhnjmacaa", sum := "e37f8176ca69e9f3f25de1390aa983bd4e009e31828442a62e235a52a55b8ae2", func := "loop.example/multipathtransport/laws.FnLossNew", spec := "fnLossNew", apart := false, narrowed := true }
def FnLossNewUptoSaid : Prop := fnLossNewUptoRow.holds Try.pinned (OpenSpec.upto fnLossNewSpec)

/-- 'laws.FnLossSend', WHERE WHAT IT READS IS OF BULK AT MOST 1048576: true; the input reads as it did. -/
def fnLossSendUptoRow : OpenClaim := { program := "ytpbkhlkhnjmacaa", sum := "e37f8176ca69e9f3f25de1390aa983bd4e009e31828442a62e235a52a55b8ae2", func := "loop.example/multipathtransport/laws.FnLossSend", spec := "fnLossSend", apart := false, narrowed := true }
def FnLossSendUptoSaid : Prop := fnLossSendUptoRow.holds Try.pinned (OpenSpec.upto fnLossSendSpec)

/-- 'laws.FnLossSendFull', WHERE WHAT IT READS IS OF BULK AT MOST 1048576: true; the input reads as it did. -/
def fnLossSendFullUptoRow : OpenClaim := { program := "ytpbkhlkhnjmacaa", sum := "e37f8176ca69e9f3f25de1390aa983bd4e009e31828442a62e235a52a55b8ae2", func := "loop.example/multipathtransport/laws.FnLossSendFull", spec := "fnLossSendFull", apart := false, narrowed := true }
def FnLossSendFullUptoSaid : Prop := fnLossSendFullUptoRow.holds Try.pinned (OpenSpec.upto fnLossSendFullSpec)

/-- 'laws.FnLossPartition', WHERE WHAT IT READS IS OF BULK AT MOST 1048576: true; the input reads as it did. -/
def fnLossPartitionUptoRow : OpenClaim := { program := "ytpbkhlkhnjmacaa", sum := "e37f8176ca69e9f3f25de1390aa983bd4e009e31828442a62e235a52a55b8ae2", func := "loop.example/multipathtransport/laws.FnLossPartition", spec := "fnLossPartition", unfollowed := true, recurses := true, apart := false, narrowed := true }
def FnLossPartitionUptoSaid : Prop := fnLossPartitionUptoRow.holds Try.pinned (OpenSpec.upto fnLossPartitionSpec)

/-- 'laws.FnLossAcked', WHERE WHAT IT READS IS OF BULK AT MOST 1048576: true; the input reads as it did. -/
def fnLossAckedUptoRow : OpenClaim := { program := "ytpbkhlkhnjmacaa", sum := "e37f8176ca69e9f3f25de1390aa983bd4e009e31828442a62e235a52a55b8ae2", func := "loop.example/multipathtransport/laws.FnLossAcked", spec := "fnLossAcked", unfollowed := true, recurses := true, apart := false, narrowed := true }
def FnLossAckedUptoSaid : Prop := fnLossAckedUptoRow.holds Try.pinned (OpenSpec.upto fnLossAckedSpec)

/-- 'laws.FnLossLost', WHERE WHAT IT READS IS OF BULK AT MOST 1048576: true; the input reads as it did. -/
def fnLossLostUptoRow : OpenClaim := { program := "ytpbkhlkhnjmacaa", sum := "e37f8176ca69e9f3f25de1390aa983bd4e009e31828442a62e235a52a55b8ae2", func := "loop.example/multipathtransport/laws.FnLossLost", spec := "fnLossLost", unfollowed := true, recurses := true, apart := false, narrowed := true }
def FnLossLostUptoSaid : Prop := fnLossLostUptoRow.holds Try.pinned (OpenSpec.upto fnLossLostSpec)

/-- 'laws.FnLossKept', WHERE WHAT IT READS IS OF BULK AT MOST 1048576: true; the input reads as it did. -/
def fnLossKeptUptoRow : OpenClaim := { program := "ytpbkhlkhnjmacaa", sum := "e37f8176ca69e9f3f25de1390aa983bd4e009e31828442a62e235a52a55b8ae2", func := "loop.example/multipathtransport/laws.FnLossKept", spec := "fnLossKept", unfollowed := true, recurses := true, apart := false, narrowed := true }
def FnLossKeptUptoSaid : Prop := fnLossKeptUptoRow.holds Try.pinned (OpenSpec.upto fnLossKeptSpec)

/-- 'laws.FnLossTwice', WHERE WHAT IT READS IS OF BULK AT MOST 1048576: true; the input reads as it did. -/
def fnLossTwiceUptoRow : OpenClaim := { program := "ytpbkhlkhnjmacaa", sum := "e37f8176ca69e9f3f25de1390aa983bd4e009e31828442a62e235a52a55b8ae2", func := "loop.example/multipathtransport/laws.FnLossTwice", spec := "fnLossTwice", unfollowed := true, recurses := true, apart := false, narrowed := true }
def FnLossTwiceUptoSaid : Prop := fnLossTwiceUptoRow.holds Try.pinned (OpenSpec.upto fnLossTwiceSpec)

/-- 'laws.FnLossLargest', WHERE WHAT IT READS IS OF BULK AT MOST 1048576: true; the input reads as it did. -/
def fnLossLargestUptoRow : OpenClaim := { program := "ytpbkhlkhnjmacaa", sum := "e37f8176ca69e9f3f25de1390aa983bd4e009e31828442a62e235a52a55b8ae2", func := "loop.example/multipathtransport/laws.FnLossLargest", spec := "fnLossLargest", unfollowed := true, recurses := true, apart := false, narrowed := true }
def FnLossLargestUptoSaid : Prop := fnLossLargestUptoRow.holds Try.pinned (OpenSpec.upto fnLossLargestSpec)

/-- 'laws.FnLossUnsent', WHERE WHAT IT READS IS OF BULK AT MOST 1048576: true; the input reads as it did. -/
def fnLossUnsentUptoRow : OpenClaim := { program := "ytpbkhlkhnjmacaa", sum := "e37f8176ca69e9f3f25de1390aa983bd4e009e31828442a62e235a52a55b8ae2", func := "loop.example/multipathtransport/laws.FnLossUnsent", spec := "fnLossUnsent", unfollowed := true, recurses := true, apart := false, narrowed := true }
def FnLossUnsentUptoSaid : Prop := fnLossUnsentUptoRow.holds Try.pinned (OpenSpec.upto fnLossUnsentSpec)

/-- 'laws.FnLossBytes', WHERE WHAT IT READS IS OF BULK AT MOST 1048576: true; the input reads as it did. -/
def fnLossBytesUptoRow : OpenClaim := { program := "ytpbkhlkhnjmacaa", sum := "e37f8176ca69e9f3f25de1390aa983bd4e009e31828442a62e235a52a55b8ae2", func := "loop.example/multipathtransport/laws.FnLossBytes", spec := "fnLossBytes", unfollowed := true, recurses := true, apart := false, narrowed := true }
def FnLossBytesUptoSaid : Prop := fnLossBytesUptoRow.holds Try.pinned (OpenSpec.upto fnLossBytesSpec)

/-- 'laws.FnLossTimer', WHERE WHAT IT READS IS OF BULK AT MOST 1048576: true; the input reads as it did. -/
def fnLossTimerUptoRow : OpenClaim := { program := "ytpbkhlkhnjmacaa", sum := "e37f8176ca69e9f3f25de1390aa983bd4e009e31828442a62e235a52a55b8ae2", func := "loop.example/multipathtransport/laws.FnLossTimer", spec := "fnLossTimer", unfollowed := true, recurses := true, apart := false, narrowed := true }
def FnLossTimerUptoSaid : Prop := fnLossTimerUptoRow.holds Try.pinned (OpenSpec.upto fnLossTimerSpec)

/-- 'laws.FnLossAll', WHERE WHAT IT READS IS OF BULK AT MOST 1048576: true; the input reads as it did. -/
def fnLossAllUptoRow : OpenClaim := { program := "ytpbkhlkhnjmacaa", sum := "e37f8176ca69e9f3f25de1390aa983bd4e009e31828442a62e235a52a55b8ae2", func := "loop.example/multipathtransport/laws.FnLossAll", spec := "fnLossAll", unfollowed := true, recurses := true, apart := false, narrowed := true }
def FnLossAllUptoSaid : Prop := fnLossAllUptoRow.holds Try.pinned (OpenSpec.upto fnLossAllSpec)

end Rows
end Go.Proofs.Ytpbkhlkhnjmacaa
