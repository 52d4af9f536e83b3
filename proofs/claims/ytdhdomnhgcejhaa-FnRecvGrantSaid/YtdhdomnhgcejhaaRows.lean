/-
  No cell of these rows narrows 'for every input' (looked for: loops, veiled, ifaces, maps, wideKeys, modest, calm, conditions, laid).
  DERIVED. THE GIVEN ROWS OF THIS SEAT. 14 by the template 'for every input the law returns true; each argument reads behind the call as it read before'; 0 by the template 'total and deterministic' (their statements: YtdhdomnhgcejhaaTotals.lean).
  GIVEN WITH THE SEED: the statements are not yours to turn. If you find one false, say at which input.
  Laid BY PROGRAM, IN A SANDBOX (cutbox-rows.mjs): the forced cells as the released guide's own fill.sh prints them over the translation 578912c730813d76… (all of the seat's roots in one cut). By AI agents, Wed Nov 11 2026. No macro, syntax, notation, axiom, sorry.
-/
import Derived.Test.YtdhdomnhgcejhaaChecked
import GoSem.Claim
import GoSem.ClaimJoined
import GoSem.ClaimMapViews
import Derived.JoinedTies
import Derived.KernelRfl
namespace Go.Proofs.Ytdhdomnhgcejhaa
/- THE CELL 'sum', in the pinned program and in every row, IS THE sha256 OF THE DUMP (.gsa) THAT YtdhdomnhgcejhaaProg.lean LOADS. Nothing in Lean hashes anything: it is a label: what it is worth is what the hold of that sum in a sandbox is worth. -/
noncomputable def Try.pinned : Pinned := { name := "ytdhdomnhgcejhaa", sum := "578912c730813d76efb8794a9fe4f8282e27b4a35488bacf062c5b67d7e48cc5", checked := Try.checked }
namespace Rows
def none {H : Type} : Left H := { results := [], args := [] }

/-- 'laws.FnRecvAnyOrder': WHATEVER THE INPUT: true; the input reads as it did. -/
def fnRecvAnyOrderSpec : ChangeSpec := { name := "fnRecvAnyOrder", fn := fun _ => fun
  | [d1, d2] => { results := [.lit (.bool true)], args := [d1, d2] }
  | _ => none }
def fnRecvAnyOrderRow : OpenClaim := { program := "ytdhdomnhgcejhaa", sum := "578912c730813d76efb8794a9fe4f8282e27b4a35488bacf062c5b67d7e48cc5", func := "loop.example/multipathtransport/laws.FnRecvAnyOrder", spec := "fnRecvAnyOrder", unfollowed := true, recurses := true, apart := false }
def FnRecvAnyOrderSaid : Prop := fnRecvAnyOrderRow.holds Try.pinned (OpenSpec.ofChange fnRecvAnyOrderSpec)

/-- ITS FALSE NEIGHBOUR: 'it returns false'. Refute it at one input. -/
def fnRecvAnyOrderWrong : ChangeSpec := { name := "fnRecvAnyOrder", fn := fun _ => fun
  | [d1, d2] => { results := [.lit (.bool false)], args := [d1, d2] }
  | _ => none }
def FnRecvAnyOrderWrongFalsely : Prop := fnRecvAnyOrderRow.holds Try.pinned (OpenSpec.ofChange fnRecvAnyOrderWrong)

/-- 'laws.FnRecvPutTwice': WHATEVER THE INPUT: true; the input reads as it did. -/
def fnRecvPutTwiceSpec : ChangeSpec := { name := "fnRecvPutTwice", fn := fun _ => fun
  | [d] => { results := [.lit (.bool true)], args := [d] }
  | _ => none }
def fnRecvPutTwiceRow : OpenClaim := { program := "ytdhdomnhgcejhaa", sum := "578912c730813d76efb8794a9fe4f8282e27b4a35488bacf062c5b67d7e48cc5", func := "loop.example/multipathtransport/laws.FnRecvPutTwice", spec := "fnRecvPutTwice", unfollowed := true, recurses := true, apart := false }
def FnRecvPutTwiceSaid : Prop := fnRecvPutTwiceRow.holds Try.pinned (OpenSpec.ofChange fnRecvPutTwiceSpec)

/-- ITS FALSE NEIGHBOUR: 'it returns false'. Refute it at one input. -/
def fnRecvPutTwiceWrong : ChangeSpec := { name := "fnRecvPutTwice", fn := fun _ => fun
  | [d] => { results := [.lit (.bool false)], args := [d] }
  | _ => none }
def FnRecvPutTwiceWrongFalsely : Prop := fnRecvPutTwiceRow.holds Try.pinned (OpenSpec.ofChange fnRecvPutTwiceWrong)

/-- 'laws.FnRecvError': WHATEVER THE INPUT: true; the input reads as it did. -/
def fnRecvErrorSpec : ChangeSpec := { name := "fnRecvError", fn := fun _ => fun
  | [d] => { results := [.lit (.bool true)], args := [d] }
  | _ => none }
def fnRecvErrorRow : OpenClaim := { program := "ytdhdomnhgcejhaa", sum := "578912c730813d76efb8794a9fe4f8282e27b4a35488bacf062c5b67d7e48cc5", func := "loop.example/multipathtransport/laws.FnRecvError", spec := "fnRecvError", unfollowed := true, recurses := true, apart := false }
def FnRecvErrorSaid : Prop := fnRecvErrorRow.holds Try.pinned (OpenSpec.ofChange fnRecvErrorSpec)

/-- ITS FALSE NEIGHBOUR: 'it returns false'. Refute it at one input. -/
def fnRecvErrorWrong : ChangeSpec := { name := "fnRecvError", fn := fun _ => fun
  | [d] => { results := [.lit (.bool false)], args := [d] }
  | _ => none }
def FnRecvErrorWrongFalsely : Prop := fnRecvErrorRow.holds Try.pinned (OpenSpec.ofChange fnRecvErrorWrong)

/-- 'laws.FnRecvOver': WHATEVER THE INPUT: true; the input reads as it did. -/
def fnRecvOverSpec : ChangeSpec := { name := "fnRecvOver", fn := fun _ => fun
  | [d] => { results := [.lit (.bool true)], args := [d] }
  | _ => none }
def fnRecvOverRow : OpenClaim := { program := "ytdhdomnhgcejhaa", sum := "578912c730813d76efb8794a9fe4f8282e27b4a35488bacf062c5b67d7e48cc5", func := "loop.example/multipathtransport/laws.FnRecvOver", spec := "fnRecvOver", unfollowed := true, recurses := true, apart := false }
def FnRecvOverSaid : Prop := fnRecvOverRow.holds Try.pinned (OpenSpec.ofChange fnRecvOverSpec)

/-- ITS FALSE NEIGHBOUR: 'it returns false'. Refute it at one input. -/
def fnRecvOverWrong : ChangeSpec := { name := "fnRecvOver", fn := fun _ => fun
  | [d] => { results := [.lit (.bool false)], args := [d] }
  | _ => none }
def FnRecvOverWrongFalsely : Prop := fnRecvOverRow.holds Try.pinned (OpenSpec.ofChange fnRecvOverWrong)

/-- 'laws.FnRecvFinal': WHATEVER THE INPUT: true; the input reads as it did. -/
def fnRecvFinalSpec : ChangeSpec := { name := "fnRecvFinal", fn := fun _ => fun
  | [d] => { results := [.lit (.bool true)], args := [d] }
  | _ => none }
def fnRecvFinalRow : OpenClaim := { program := "ytdhdomnhgcejhaa", sum := "578912c730813d76efb8794a9fe4f8282e27b4a35488bacf062c5b67d7e48cc5", func := "loop.example/multipathtransport/laws.FnRecvFinal", spec := "fnRecvFinal", unfollowed := true, recurses := true, apart := false }
def FnRecvFinalSaid : Prop := fnRecvFinalRow.holds Try.pinned (OpenSpec.ofChange fnRecvFinalSpec)

/-- ITS FALSE NEIGHBOUR: 'it returns false'. Refute it at one input. -/
def fnRecvFinalWrong : ChangeSpec := { name := "fnRecvFinal", fn := fun _ => fun
  | [d] => { results := [.lit (.bool false)], args := [d] }
  | _ => none }
def FnRecvFinalWrongFalsely : Prop := fnRecvFinalRow.holds Try.pinned (OpenSpec.ofChange fnRecvFinalWrong)

/-- 'laws.FnRecvBytes': WHATEVER THE INPUT: true; the input reads as it did. -/
def fnRecvBytesSpec : ChangeSpec := { name := "fnRecvBytes", fn := fun _ => fun
  | [d] => { results := [.lit (.bool true)], args := [d] }
  | _ => none }
def fnRecvBytesRow : OpenClaim := { program := "ytdhdomnhgcejhaa", sum := "578912c730813d76efb8794a9fe4f8282e27b4a35488bacf062c5b67d7e48cc5", func := "loop.example/multipathtransport/laws.FnRecvBytes", spec := "fnRecvBytes", unfollowed := true, recurses := true, apart := false }
def FnRecvBytesSaid : Prop := fnRecvBytesRow.holds Try.pinned (OpenSpec.ofChange fnRecvBytesSpec)

/-- ITS FALSE NEIGHBOUR: 'it returns false'. Refute it at one input. -/
def fnRecvBytesWrong : ChangeSpec := { name := "fnRecvBytes", fn := fun _ => fun
  | [d] => { results := [.lit (.bool false)], args := [d] }
  | _ => none }
def FnRecvBytesWrongFalsely : Prop := fnRecvBytesRow.holds Try.pinned (OpenSpec.ofChange fnRecvBytesWrong)

/-- 'laws.FnRecvOrder': WHATEVER THE INPUT: true; the input reads as it did. -/
def fnRecvOrderSpec : ChangeSpec := { name := "fnRecvOrder", fn := fun _ => fun
  | [d1, d2] => { results := [.lit (.bool true)], args := [d1, d2] }
  | _ => none }
def fnRecvOrderRow : OpenClaim := { program := "ytdhdomnhgcejhaa", sum := "578912c730813d76efb8794a9fe4f8282e27b4a35488bacf062c5b67d7e48cc5", func := "loop.example/multipathtransport/laws.FnRecvOrder", spec := "fnRecvOrder", unfollowed := true, recurses := true, apart := false }
def FnRecvOrderSaid : Prop := fnRecvOrderRow.holds Try.pinned (OpenSpec.ofChange fnRecvOrderSpec)

/-- ITS FALSE NEIGHBOUR: 'it returns false'. Refute it at one input. -/
def fnRecvOrderWrong : ChangeSpec := { name := "fnRecvOrder", fn := fun _ => fun
  | [d1, d2] => { results := [.lit (.bool false)], args := [d1, d2] }
  | _ => none }
def FnRecvOrderWrongFalsely : Prop := fnRecvOrderRow.holds Try.pinned (OpenSpec.ofChange fnRecvOrderWrong)

/-- 'laws.FnRecvConflict': WHATEVER THE INPUT: true; the input reads as it did. -/
def fnRecvConflictSpec : ChangeSpec := { name := "fnRecvConflict", fn := fun _ => fun
  | [d1, d2] => { results := [.lit (.bool true)], args := [d1, d2] }
  | _ => none }
def fnRecvConflictRow : OpenClaim := { program := "ytdhdomnhgcejhaa", sum := "578912c730813d76efb8794a9fe4f8282e27b4a35488bacf062c5b67d7e48cc5", func := "loop.example/multipathtransport/laws.FnRecvConflict", spec := "fnRecvConflict", unfollowed := true, recurses := true, apart := false }
def FnRecvConflictSaid : Prop := fnRecvConflictRow.holds Try.pinned (OpenSpec.ofChange fnRecvConflictSpec)

/-- ITS FALSE NEIGHBOUR: 'it returns false'. Refute it at one input. -/
def fnRecvConflictWrong : ChangeSpec := { name := "fnRecvConflict", fn := fun _ => fun
  | [d1, d2] => { results := [.lit (.bool false)], args := [d1, d2] }
  | _ => none }
def FnRecvConflictWrongFalsely : Prop := fnRecvConflictRow.holds Try.pinned (OpenSpec.ofChange fnRecvConflictWrong)

/-- 'laws.FnRecvReadSplit': WHATEVER THE INPUT: true; the input reads as it did. -/
def fnRecvReadSplitSpec : ChangeSpec := { name := "fnRecvReadSplit", fn := fun _ => fun
  | [d1, d2] => { results := [.lit (.bool true)], args := [d1, d2] }
  | _ => none }
def fnRecvReadSplitRow : OpenClaim := { program := "ytdhdomnhgcejhaa", sum := "578912c730813d76efb8794a9fe4f8282e27b4a35488bacf062c5b67d7e48cc5", func := "loop.example/multipathtransport/laws.FnRecvReadSplit", spec := "fnRecvReadSplit", apart := false }
def FnRecvReadSplitSaid : Prop := fnRecvReadSplitRow.holds Try.pinned (OpenSpec.ofChange fnRecvReadSplitSpec)

/-- ITS FALSE NEIGHBOUR: 'it returns false'. Refute it at one input. -/
def fnRecvReadSplitWrong : ChangeSpec := { name := "fnRecvReadSplit", fn := fun _ => fun
  | [d1, d2] => { results := [.lit (.bool false)], args := [d1, d2] }
  | _ => none }
def FnRecvReadSplitWrongFalsely : Prop := fnRecvReadSplitRow.holds Try.pinned (OpenSpec.ofChange fnRecvReadSplitWrong)

/-- 'laws.FnRecvReadLen': WHATEVER THE INPUT: true; the input reads as it did. -/
def fnRecvReadLenSpec : ChangeSpec := { name := "fnRecvReadLen", fn := fun _ => fun
  | [d] => { results := [.lit (.bool true)], args := [d] }
  | _ => none }
def fnRecvReadLenRow : OpenClaim := { program := "ytdhdomnhgcejhaa", sum := "578912c730813d76efb8794a9fe4f8282e27b4a35488bacf062c5b67d7e48cc5", func := "loop.example/multipathtransport/laws.FnRecvReadLen", spec := "fnRecvReadLen", apart := false }
def FnRecvReadLenSaid : Prop := fnRecvReadLenRow.holds Try.pinned (OpenSpec.ofChange fnRecvReadLenSpec)

/-- ITS FALSE NEIGHBOUR: 'it returns false'. Refute it at one input. -/
def fnRecvReadLenWrong : ChangeSpec := { name := "fnRecvReadLen", fn := fun _ => fun
  | [d] => { results := [.lit (.bool false)], args := [d] }
  | _ => none }
def FnRecvReadLenWrongFalsely : Prop := fnRecvReadLenRow.holds Try.pinned (OpenSpec.ofChange fnRecvReadLenWrong)

/-- 'laws.FnRecvEnded': WHATEVER THE INPUT: true; the input reads as it did. -/
def fnRecvEndedSpec : ChangeSpec := { name := "fnRecvEnded", fn := fun _ => fun
  | [d] => { results := [.lit (.bool true)], args := [d] }
  | _ => none }
def fnRecvEndedRow : OpenClaim := { program := "ytdhdomnhgcejhaa", sum := "578912c730813d76efb8794a9fe4f8282e27b4a35488bacf062c5b67d7e48cc5", func := "loop.example/multipathtransport/laws.FnRecvEnded", spec := "fnRecvEnded", apart := false }
def FnRecvEndedSaid : Prop := fnRecvEndedRow.holds Try.pinned (OpenSpec.ofChange fnRecvEndedSpec)

/-- ITS FALSE NEIGHBOUR: 'it returns false'. Refute it at one input. -/
def fnRecvEndedWrong : ChangeSpec := { name := "fnRecvEnded", fn := fun _ => fun
  | [d] => { results := [.lit (.bool false)], args := [d] }
  | _ => none }
def FnRecvEndedWrongFalsely : Prop := fnRecvEndedRow.holds Try.pinned (OpenSpec.ofChange fnRecvEndedWrong)

/-- 'laws.FnRecvReadyPut': WHATEVER THE INPUT: true; the input reads as it did. -/
def fnRecvReadyPutSpec : ChangeSpec := { name := "fnRecvReadyPut", fn := fun _ => fun
  | [d] => { results := [.lit (.bool true)], args := [d] }
  | _ => none }
def fnRecvReadyPutRow : OpenClaim := { program := "ytdhdomnhgcejhaa", sum := "578912c730813d76efb8794a9fe4f8282e27b4a35488bacf062c5b67d7e48cc5", func := "loop.example/multipathtransport/laws.FnRecvReadyPut", spec := "fnRecvReadyPut", unfollowed := true, recurses := true, apart := false }
def FnRecvReadyPutSaid : Prop := fnRecvReadyPutRow.holds Try.pinned (OpenSpec.ofChange fnRecvReadyPutSpec)

/-- ITS FALSE NEIGHBOUR: 'it returns false'. Refute it at one input. -/
def fnRecvReadyPutWrong : ChangeSpec := { name := "fnRecvReadyPut", fn := fun _ => fun
  | [d] => { results := [.lit (.bool false)], args := [d] }
  | _ => none }
def FnRecvReadyPutWrongFalsely : Prop := fnRecvReadyPutRow.holds Try.pinned (OpenSpec.ofChange fnRecvReadyPutWrong)

/-- 'laws.FnRecvGrant': WHATEVER THE INPUT: true; the input reads as it did. -/
def fnRecvGrantSpec : ChangeSpec := { name := "fnRecvGrant", fn := fun _ => fun
  | [d] => { results := [.lit (.bool true)], args := [d] }
  | _ => none }
def fnRecvGrantRow : OpenClaim := { program := "ytdhdomnhgcejhaa", sum := "578912c730813d76efb8794a9fe4f8282e27b4a35488bacf062c5b67d7e48cc5", func := "loop.example/multipathtransport/laws.FnRecvGrant", spec := "fnRecvGrant", apart := false }
def FnRecvGrantSaid : Prop := fnRecvGrantRow.holds Try.pinned (OpenSpec.ofChange fnRecvGrantSpec)

/-- ITS FALSE NEIGHBOUR: 'it returns false'. Refute it at one input. -/
def fnRecvGrantWrong : ChangeSpec := { name := "fnRecvGrant", fn := fun _ => fun
  | [d] => { results := [.lit (.bool false)], args := [d] }
  | _ => none }
def FnRecvGrantWrongFalsely : Prop := fnRecvGrantRow.holds Try.pinned (OpenSpec.ofChange fnRecvGrantWrong)

/-- 'laws.FnRecvGrantPut': WHATEVER THE INPUT: true; the input reads as it did. -/
def fnRecvGrantPutSpec : ChangeSpec := { name := "fnRecvGrantPut", fn := fun _ => fun
  | [d] => { results := [.lit (.bool true)], args := [d] }
  | _ => none }
def fnRecvGrantPutRow : OpenClaim := { program := "ytdhdomnhgcejhaa", sum := "578912c730813d76efb8794a9fe4f8282e27b4a35488bacf062c5b67d7e48cc5", func := "loop.example/multipathtransport/laws.FnRecvGrantPut", spec := "fnRecvGrantPut", unfollowed := true, recurses := true, apart := false }
def FnRecvGrantPutSaid : Prop := fnRecvGrantPutRow.holds Try.pinned (OpenSpec.ofChange fnRecvGrantPutSpec)

/-- ITS FALSE NEIGHBOUR: 'it returns false'. Refute it at one input. -/
def fnRecvGrantPutWrong : ChangeSpec := { name := "fnRecvGrantPut", fn := fun _ => fun
  | [d] => { results := [.lit (.bool false)], args := [d] }
  | _ => none }
def FnRecvGrantPutWrongFalsely : Prop := fnRecvGrantPutRow.holds Try.pinned (OpenSpec.ofChange fnRecvGrantPutWrong)

/- THE SECOND FORM. 'bulk': how many values and letters a reading holds, each counted each time it is reached (what is shared counts as often as it is met; a slice's spare places count too). A statement '..UptoSaid' is the law's where the arguments, and the package variables that the reading takes, are together of bulk at most 1048576: NARROWER than '..Said'. Prove '..Said' where nothing that the law and all that it calls make is longer than what came in: it says more and counts as full. Else prove '..UptoSaid'. A law counts once. -/
mutual
def uptoBulk {H : Type} : DataW H → Nat
  | .lit (.string bytes) => bytes.length + 1
  | .lit _ => 1
  | .nil => 1
  | .ptr d => uptoBulk d + 1
  | .slice elems spare => uptoBulkAll elems + uptoBulkAll spare + 1
  | .agg parts => uptoBulkAll parts + 1
  | .iface _ d => uptoBulk d + 1
  | .map entries => uptoBulkEntries entries + 1
  | .held _ => 1
def uptoBulkAll {H : Type} : List (DataW H) → Nat
  | [] => 0
  | d :: r => uptoBulk d + uptoBulkAll r
def uptoBulkEntries {H : Type} : List (Lit × DataW H) → Nat
  | [] => 0
  | x :: r => uptoBulkEntry x + uptoBulkEntries r
def uptoBulkEntry {H : Type} : Lit × DataW H → Nat
  | (.string bytes, d) => bytes.length + uptoBulk d + 1
  | (_, d) => uptoBulk d + 1
 end
def uptoSmall : (H : Type) → List (DataW H) → Bool := fun _ ds => decide (uptoBulkAll ds ≤ 1048576)
def OpenSpec.upto (s : _root_.Go.ChangeSpec) : _root_.Go.OpenSpec := { _root_.Go.OpenSpec.ofChange s with cond := some uptoSmall }

/-- 'laws.FnRecvAnyOrder', WHERE WHAT IT READS IS OF BULK AT MOST 1048576: true; the input reads as it did. -/
def fnRecvAnyOrderUptoRow : OpenClaim := { program := "ytdhdomnhgcejhaa", sum := "578912c730813d76efb8794a9fe4f8282e27b4a35488bacf062c5b67d7e48cc5", func := "loop.example/multipathtransport/laws.FnRecvAnyOrder", spec := "fnRecvAnyOrder", unfollowed := true, recurses := true, apart := false, narrowed := true }
def FnRecvAnyOrderUptoSaid : Prop := fnRecvAnyOrderUptoRow.holds Try.pinned (OpenSpec.upto fnRecvAnyOrderSpec)

/-- 'laws.FnRecvPutTwice', WHERE WHAT IT READS IS OF BULK AT MOST 1048576: true; the input reads as it did. -/
def fnRecvPutTwiceUptoRow : OpenClaim := { program := "ytdhdomnhgcejhaa", sum := "578912c730813d76efb8794a9fe4f8282e27b4a35488bacf062c5b67d7e48cc5", func := "loop.example/multipathtransport/laws.FnRecvPutTwice", spec := "fnRecvPutTwice", unfollowed := true, recurses := true, apart := false, narrowed := true }
def FnRecvPutTwiceUptoSaid : Prop := fnRecvPutTwiceUptoRow.holds Try.pinned (OpenSpec.upto fnRecvPutTwiceSpec)

/-- 'laws.FnRecvError', WHERE WHAT IT READS IS OF BULK AT MOST 1048576: true; the input reads as it did. -/
def fnRecvErrorUptoRow : OpenClaim := { program := "ytdhdomnhgcejhaa", sum := "578912c730813d76efb8794a9fe4f8282e27b4a35488bacf062c5b67d7e48cc5", func := "loop.example/multipathtransport/laws.FnRecvError", spec := "fnRecvError", unfollowed := true, recurses := true, apart := false, narrowed := true }
def FnRecvErrorUptoSaid : Prop := fnRecvErrorUptoRow.holds Try.pinned (OpenSpec.upto fnRecvErrorSpec)

/-- 'laws.FnRecvOver', WHERE WHAT IT READS IS OF BULK AT MOST 1048576: true; the input reads as it did. -/
def fnRecvOverUptoRow : OpenClaim := { program := "ytdhdomnhgcejhaa", sum := "578912c730813d76efb8794a9fe4f8282e27b4a35488bacf062c5b67d7e48cc5", func := "loop.example/multipathtransport/laws.FnRecvOver", spec := "fnRecvOver", unfollowed := true, recurses := true, apart := false, narrowed := true }
def FnRecvOverUptoSaid : Prop := fnRecvOverUptoRow.holds Try.pinned (OpenSpec.upto fnRecvOverSpec)

/-- 'laws.FnRecvFinal', WHERE WHAT IT READS IS OF BULK AT MOST 1048576: true; the input reads as it did. -/
def fnRecvFinalUptoRow : OpenClaim := { program := "ytdhdomnhgcejhaa", sum := "578912c730813d76efb8794a9fe4f8282e27b4a35488bacf062c5b67d7e48cc5", func := "loop.example/multipathtransport/laws.FnRecvFinal", spec := "fnRecvFinal", unfollowed := true, recurses := true, apart := false, narrowed := true }
def FnRecvFinalUptoSaid : Prop := fnRecvFinalUptoRow.holds Try.pinned (OpenSpec.upto fnRecvFinalSpec)

/-- 'laws.FnRecvBytes', WHERE WHAT IT READS IS OF BULK AT MOST 1048576: true; the input reads as it did. -/
def fnRecvBytesUptoRow : OpenClaim := { program := "ytdhdomnhgcejhaa", sum := "578912c730813d76efb8794a9fe4f8282e27b4a35488bacf062c5b67d7e48cc5", func := "loop.example/multipathtransport/laws.FnRecvBytes", spec := "fnRecvBytes", unfollowed := true, recurses := true, apart := false, narrowed := true }
def FnRecvBytesUptoSaid : Prop := fnRecvBytesUptoRow.holds Try.pinned (OpenSpec.upto fnRecvBytesSpec)

/-- 'laws.FnRecvOrder', WHERE WHAT IT READS IS OF BULK AT MOST 1048576: true; the input reads as it did. -/
def fnRecvOrderUptoRow : OpenClaim := { program := "ytdhdomnhgcejhaa", sum := "578912c730813d76efb8794a9fe4f8282e27b4a35488bacf062c5b67d7e48cc5", func := "loop.example/multipathtransport/laws.FnRecvOrder", spec := "fnRecvOrder", unfollowed := true, recurses := true, apart := false, narrowed := true }
def FnRecvOrderUptoSaid : Prop := fnRecvOrderUptoRow.holds Try.pinned (OpenSpec.upto fnRecvOrderSpec)

/-- 'laws.FnRecvConflict', WHERE WHAT IT READS IS OF BULK AT MOST 1048576: true; the input reads as it did. -/
def fnRecvConflictUptoRow : OpenClaim := { program := "ytdhdomnhgcejhaa", sum := "578912c730813d76efb8794a9fe4f8282e27b4a35488bacf062c5b67d7e48cc5", func := "loop.example/multipathtransport/laws.FnRecvConflict", spec := "fnRecvConflict", unfollowed := true, recurses := true, apart := false, narrowed := true }
def FnRecvConflictUptoSaid : Prop := fnRecvConflictUptoRow.holds Try.pinned (OpenSpec.upto fnRecvConflictSpec)

/-- 'laws.FnRecvReadSplit', WHERE WHAT IT READS IS OF BULK AT MOST 1048576: true; the input reads as it did. -/
def fnRecvReadSplitUptoRow : OpenClaim := { program := "ytdhdomnhgcejhaa", sum := "578912c730813d76efb8794a9fe4f8282e27b4a35488bacf062c5b67d7e48cc5", func := "loop.example/multipathtransport/laws.FnRecvReadSplit", spec := "fnRecvReadSplit", apart := false, narrowed := true }
def FnRecvReadSplitUptoSaid : Prop := fnRecvReadSplitUptoRow.holds Try.pinned (OpenSpec.upto fnRecvReadSplitSpec)

/-- 'laws.FnRecvReadLen', WHERE WHAT IT READS IS OF BULK AT MOST 1048576: true; the input reads as it did. -/
def fnRecvReadLenUptoRow : OpenClaim := { program := "ytdhdomnhgcejhaa", sum := "578912c730813d76efb8794a9fe4f8282e27b4a35488bacf062c5b67d7e48cc5", func := "loop.example/multipathtransport/laws.FnRecvReadLen", spec := "fnRecvReadLen", apart := false, narrowed := true }
def FnRecvReadLenUptoSaid : Prop := fnRecvReadLenUptoRow.holds Try.pinned (OpenSpec.upto fnRecvReadLenSpec)

/-- 'laws.FnRecvEnded', WHERE WHAT IT READS IS OF BULK AT MOST 1048576: true; the input reads as it did. -/
def fnRecvEndedUptoRow : OpenClaim := { program := "ytdhdomnhgcejhaa", sum := "578912c730813d76efb8794a9fe4f8282e27b4a35488bacf062c5b67d7e48cc5", func := "loop.example/multipathtransport/laws.FnRecvEnded", spec := "fnRecvEnded", apart := false, narrowed := true }
def FnRecvEndedUptoSaid : Prop := fnRecvEndedUptoRow.holds Try.pinned (OpenSpec.upto fnRecvEndedSpec)

/-- 'laws.FnRecvReadyPut', WHERE WHAT IT READS IS OF BULK AT MOST 1048576: true; the input reads as it did. -/
def fnRecvReadyPutUptoRow : OpenClaim := { program := "ytdhdomnhgcejhaa", sum := "578912c730813d76efb8794a9fe4f8282e27b4a35488bacf062c5b67d7e48cc5", func := "loop.example/multipathtransport/laws.FnRecvReadyPut", spec := "fnRecvReadyPut", unfollowed := true, recurses := true, apart := false, narrowed := true }
def FnRecvReadyPutUptoSaid : Prop := fnRecvReadyPutUptoRow.holds Try.pinned (OpenSpec.upto fnRecvReadyPutSpec)

/-- 'laws.FnRecvGrant', WHERE WHAT IT READS IS OF BULK AT MOST 1048576: true; the input reads as it did. -/
def fnRecvGrantUptoRow : OpenClaim := { program := "ytdhdomnhgcejhaa", sum := "578912c730813d76efb8794a9fe4f8282e27b4a35488bacf062c5b67d7e48cc5", func := "loop.example/multipathtransport/laws.FnRecvGrant", spec := "fnRecvGrant", apart := false, narrowed := true }
def FnRecvGrantUptoSaid : Prop := fnRecvGrantUptoRow.holds Try.pinned (OpenSpec.upto fnRecvGrantSpec)

/-- 'laws.FnRecvGrantPut', WHERE WHAT IT READS IS OF BULK AT MOST 1048576: true; the input reads as it did. -/
def fnRecvGrantPutUptoRow : OpenClaim := { program := "ytdhdomnhgcejhaa", sum := "578912c730813d76efb8794a9fe4f8282e27b4a35488bacf062c5b67d7e48cc5", func := "loop.example/multipathtransport/laws.FnRecvGrantPut", spec := "fnRecvGrantPut", unfollowed := true, recurses := true, apart := false, narrowed := true }
def FnRecvGrantPutUptoSaid : Prop := fnRecvGrantPutUptoRow.holds Try.pinned (OpenSpec.upto fnRecvGrantPutSpec)

end Rows
end Go.Proofs.Ytdhdomnhgcejhaa
