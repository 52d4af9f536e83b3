/-
  No cell of these rows narrows 'for every input' (looked for: loops, veiled, ifaces, maps, wideKeys, modest, calm, conditions, laid).
  DERIVED. THE GIVEN ROWS OF THIS SEAT. 7 by the template 'for every input the law returns true; each argument reads behind the call as it read before'; 0 by the template 'total and deterministic' (their statements: YthdhjjbgegcncaaTotals.lean).
  GIVEN WITH THE SEED: the statements are not yours to turn. If you find one false, say at which input.
  Laid BY PROGRAM, IN A SANDBOX (cutbox-rows.mjs): the forced cells as the released guide's own fill.sh prints them over the translation dd7e39a55d2b04ae… (all of the seat's roots in one cut). By AI agents, Wed Nov 11 2026. No macro, syntax, notation, axiom, sorry.
-/
import Derived.Test.YthdhjjbgegcncaaChecked
import GoSem.Claim
import GoSem.ClaimJoined
import GoSem.ClaimMapViews
import Derived.JoinedTies
import Derived.KernelRfl
namespace Go.Proofs.Ythdhjjbgegcncaa
/- THE CELL 'sum', in the pinned program and in every row, IS THE sha256 OF THE DUMP (.gsa) THAT YthdhjjbgegcncaaProg.lean LOADS. Nothing in Lean hashes anything: it is a label: what it is worth is what the hold of that sum in a sandbox is worth. -/
noncomputable def Try.pinned : Pinned := { name := "ythdhjjbgegcncaa", sum := "dd7e39a55d2b04ae5081c9f049af6f9841a8409d0da2f008459918acdcaeab24", checked := Try.checked }
namespace Rows
def none {H : Type} : Left H := { results := [], args := [] }

/-- 'laws.FnExactRecvNew': WHATEVER THE INPUT: true; the input reads as it did. -/
def fnExactRecvNewSpec : ChangeSpec := { name := "fnExactRecvNew", fn := fun _ => fun
  | [d] => { results := [.lit (.bool true)], args := [d] }
  | _ => none }
def fnExactRecvNewRow : OpenClaim := { program := "ythdhjjbgegcncaa", sum := "dd7e39a55d2b04ae5081c9f049af6f9841a8409d0da2f008459918acdcaeab24", func := "loop.example/multipathtransport/laws.FnExactRecvNew", spec := "fnExactRecvNew", apart := false }
def FnExactRecvNewSaid : Prop := fnExactRecvNewRow.holds Try.pinned (OpenSpec.ofChange fnExactRecvNewSpec)

/-- ITS FALSE NEIGHBOUR: 'it returns false'. Refute it at one input. -/
def fnExactRecvNewWrong : ChangeSpec := { name := "fnExactRecvNew", fn := fun _ => fun
  | [d] => { results := [.lit (.bool false)], args := [d] }
  | _ => none }
def FnExactRecvNewWrongFalsely : Prop := fnExactRecvNewRow.holds Try.pinned (OpenSpec.ofChange fnExactRecvNewWrong)

/-- 'laws.FnExactRecvValid': WHATEVER THE INPUT: true; the input reads as it did. -/
def fnExactRecvValidSpec : ChangeSpec := { name := "fnExactRecvValid", fn := fun _ => fun
  | [d] => { results := [.lit (.bool true)], args := [d] }
  | _ => none }
def fnExactRecvValidRow : OpenClaim := { program := "ythdhjjbgegcncaa", sum := "dd7e39a55d2b04ae5081c9f049af6f9841a8409d0da2f008459918acdcaeab24", func := "loop.example/multipathtransport/laws.FnExactRecvValid", spec := "fnExactRecvValid", apart := false }
def FnExactRecvValidSaid : Prop := fnExactRecvValidRow.holds Try.pinned (OpenSpec.ofChange fnExactRecvValidSpec)

/-- ITS FALSE NEIGHBOUR: 'it returns false'. Refute it at one input. -/
def fnExactRecvValidWrong : ChangeSpec := { name := "fnExactRecvValid", fn := fun _ => fun
  | [d] => { results := [.lit (.bool false)], args := [d] }
  | _ => none }
def FnExactRecvValidWrongFalsely : Prop := fnExactRecvValidRow.holds Try.pinned (OpenSpec.ofChange fnExactRecvValidWrong)

/-- 'laws.FnExactRecvPut': WHATEVER THE INPUT: true; the input reads as it did. -/
def fnExactRecvPutSpec : ChangeSpec := { name := "fnExactRecvPut", fn := fun _ => fun
  | [d1, d2, d3, d4] => { results := [.lit (.bool true)], args := [d1, d2, d3, d4] }
  | _ => none }
def fnExactRecvPutRow : OpenClaim := { program := "ythdhjjbgegcncaa", sum := "dd7e39a55d2b04ae5081c9f049af6f9841a8409d0da2f008459918acdcaeab24", func := "loop.example/multipathtransport/laws.FnExactRecvPut", spec := "fnExactRecvPut", unfollowed := true, recurses := true, apart := false }
def FnExactRecvPutSaid : Prop := fnExactRecvPutRow.holds Try.pinned (OpenSpec.ofChange fnExactRecvPutSpec)

/-- ITS FALSE NEIGHBOUR: 'it returns false'. Refute it at one input. -/
def fnExactRecvPutWrong : ChangeSpec := { name := "fnExactRecvPut", fn := fun _ => fun
  | [d1, d2, d3, d4] => { results := [.lit (.bool false)], args := [d1, d2, d3, d4] }
  | _ => none }
def FnExactRecvPutWrongFalsely : Prop := fnExactRecvPutRow.holds Try.pinned (OpenSpec.ofChange fnExactRecvPutWrong)

/-- 'laws.FnExactRecvReady': WHATEVER THE INPUT: true; the input reads as it did. -/
def fnExactRecvReadySpec : ChangeSpec := { name := "fnExactRecvReady", fn := fun _ => fun
  | [d] => { results := [.lit (.bool true)], args := [d] }
  | _ => none }
def fnExactRecvReadyRow : OpenClaim := { program := "ythdhjjbgegcncaa", sum := "dd7e39a55d2b04ae5081c9f049af6f9841a8409d0da2f008459918acdcaeab24", func := "loop.example/multipathtransport/laws.FnExactRecvReady", spec := "fnExactRecvReady", apart := false }
def FnExactRecvReadySaid : Prop := fnExactRecvReadyRow.holds Try.pinned (OpenSpec.ofChange fnExactRecvReadySpec)

/-- ITS FALSE NEIGHBOUR: 'it returns false'. Refute it at one input. -/
def fnExactRecvReadyWrong : ChangeSpec := { name := "fnExactRecvReady", fn := fun _ => fun
  | [d] => { results := [.lit (.bool false)], args := [d] }
  | _ => none }
def FnExactRecvReadyWrongFalsely : Prop := fnExactRecvReadyRow.holds Try.pinned (OpenSpec.ofChange fnExactRecvReadyWrong)

/-- 'laws.FnExactRecvRead': WHATEVER THE INPUT: true; the input reads as it did. -/
def fnExactRecvReadSpec : ChangeSpec := { name := "fnExactRecvRead", fn := fun _ => fun
  | [d1, d2] => { results := [.lit (.bool true)], args := [d1, d2] }
  | _ => none }
def fnExactRecvReadRow : OpenClaim := { program := "ythdhjjbgegcncaa", sum := "dd7e39a55d2b04ae5081c9f049af6f9841a8409d0da2f008459918acdcaeab24", func := "loop.example/multipathtransport/laws.FnExactRecvRead", spec := "fnExactRecvRead", apart := false }
def FnExactRecvReadSaid : Prop := fnExactRecvReadRow.holds Try.pinned (OpenSpec.ofChange fnExactRecvReadSpec)

/-- ITS FALSE NEIGHBOUR: 'it returns false'. Refute it at one input. -/
def fnExactRecvReadWrong : ChangeSpec := { name := "fnExactRecvRead", fn := fun _ => fun
  | [d1, d2] => { results := [.lit (.bool false)], args := [d1, d2] }
  | _ => none }
def FnExactRecvReadWrongFalsely : Prop := fnExactRecvReadRow.holds Try.pinned (OpenSpec.ofChange fnExactRecvReadWrong)

/-- 'laws.FnExactRecvEnded': WHATEVER THE INPUT: true; the input reads as it did. -/
def fnExactRecvEndedSpec : ChangeSpec := { name := "fnExactRecvEnded", fn := fun _ => fun
  | [d] => { results := [.lit (.bool true)], args := [d] }
  | _ => none }
def fnExactRecvEndedRow : OpenClaim := { program := "ythdhjjbgegcncaa", sum := "dd7e39a55d2b04ae5081c9f049af6f9841a8409d0da2f008459918acdcaeab24", func := "loop.example/multipathtransport/laws.FnExactRecvEnded", spec := "fnExactRecvEnded", apart := false }
def FnExactRecvEndedSaid : Prop := fnExactRecvEndedRow.holds Try.pinned (OpenSpec.ofChange fnExactRecvEndedSpec)

/-- ITS FALSE NEIGHBOUR: 'it returns false'. Refute it at one input. -/
def fnExactRecvEndedWrong : ChangeSpec := { name := "fnExactRecvEnded", fn := fun _ => fun
  | [d] => { results := [.lit (.bool false)], args := [d] }
  | _ => none }
def FnExactRecvEndedWrongFalsely : Prop := fnExactRecvEndedRow.holds Try.pinned (OpenSpec.ofChange fnExactRecvEndedWrong)

/-- 'laws.FnExactRecvGrant': WHATEVER THE INPUT: true; the input reads as it did. -/
def fnExactRecvGrantSpec : ChangeSpec := { name := "fnExactRecvGrant", fn := fun _ => fun
  | [d1, d2] => { results := [.lit (.bool true)], args := [d1, d2] }
  | _ => none }
def fnExactRecvGrantRow : OpenClaim := { program := "ythdhjjbgegcncaa", sum := "dd7e39a55d2b04ae5081c9f049af6f9841a8409d0da2f008459918acdcaeab24", func := "loop.example/multipathtransport/laws.FnExactRecvGrant", spec := "fnExactRecvGrant", apart := false }
def FnExactRecvGrantSaid : Prop := fnExactRecvGrantRow.holds Try.pinned (OpenSpec.ofChange fnExactRecvGrantSpec)

/-- ITS FALSE NEIGHBOUR: 'it returns false'. Refute it at one input. -/
def fnExactRecvGrantWrong : ChangeSpec := { name := "fnExactRecvGrant", fn := fun _ => fun
  | [d1, d2] => { results := [.lit (.bool false)], args := [d1, d2] }
  | _ => none }
def FnExactRecvGrantWrongFalsely : Prop := fnExactRecvGrantRow.holds Try.pinned (OpenSpec.ofChange fnExactRecvGrantWrong)

/- THE SECOND FORM. 'bulk': how many values and letters a reading holds, each counted each time it is reached (what is shared counts as often as it is met; a slice's spare places count too). A statement '..UptoSaid' is the law's where the arguments, and the package variables that the reading takes, are together of bulk at most 1048576: NARROWER than '..Said'. Prove '..Said' where nothing that the law and all that it calls make is longer than what came in: it says more and counts as full. Else prove '..UptoSaid'. A law counts once. -/
mutual
def uptoBulk {H : Type} : DataW H → Nat
  | .lit (.string bytes) => bytes.length + 1
  | .lit _ => 1
  | .nil => 1
  | .ptr d => uptoBulk d + 1
  | .slice elems spare => uptoBulkAll elems + uptoBulkAll spare + 1
  | .agg parts => uptoBulkAll parts + 1
  | .iface _ d => uptoBulk d + 1
  | .map entries => uptoBulkEntries entries + 1
  | .held _ => 1
def uptoBulkAll {H : Type} : List (DataW H) → Nat
  | [] => 0
  | d :: r => uptoBulk d + uptoBulkAll r
def uptoBulkEntries {H : Type} : List (Lit × DataW H) → Nat
  | [] => 0
  | x :: r => uptoBulkEntry x + uptoBulkEntries r
def uptoBulkEntry {H : Type} : Lit × DataW H → Nat
  | (.string bytes, d) => bytes.length + uptoBulk d + 1
  | (_, d) => uptoBulk d + 1
 end
def uptoSmall : (H : Type) → List (DataW H) → Bool := fun _ ds => decide (uptoBulkAll ds ≤ 1048576)
def OpenSpec.upto (s : _root_.Go.ChangeSpec) : _root_.Go.OpenSpec := { _root_.Go.OpenSpec.ofChange s with cond := some uptoSmall }

/-- 'laws.FnExactRecvNew', WHERE WHAT IT READS IS OF BULK AT MOST 1048576: true; the input reads as it did. -/
def fnExactRecvNewUptoRow : OpenClaim := { program := "ythdhjjbgegcncaa", sum := "dd7e39a55d2b04ae5081c9f049af6f9841a8409d0da2f008459918acdcaeab24", func := "loop.example/multipathtransport/laws.FnExactRecvNew", spec := "fnExactRecvNew", apart := false, narrowed := true }
def FnExactRecvNewUptoSaid : Prop := fnExactRecvNewUptoRow.holds Try.pinned (OpenSpec.upto fnExactRecvNewSpec)

/-- 'laws.FnExactRecvValid', WHERE WHAT IT READS IS OF BULK AT MOST 1048576: true; the input reads as it did. -/
def fnExactRecvValidUptoRow : OpenClaim := { program := "ythdhjjbgegcncaa", sum := "dd7e39a55d2b04ae5081c9f049af6f9841a8409d0da2f008459918acdcaeab24", func := "loop.example/multipathtransport/laws.FnExactRecvValid", spec := "fnExactRecvValid", apart := false, narrowed := true }
def FnExactRecvValidUptoSaid : Prop := fnExactRecvValidUptoRow.holds Try.pinned (OpenSpec.upto fnExactRecvValidSpec)

/-- 'laws.FnExactRecvPut', WHERE WHAT IT READS IS OF BULK AT MOST 1048576: true; the input reads as it did. -/
def fnExactRecvPutUptoRow : OpenClaim := { program := "ythdhjjbgegcncaa", sum := "dd7e39a55d2b04ae5081c9f049af6f9841a8409d0da2f008459918acdcaeab24", func := "loop.example/multipathtransport/laws.FnExactRecvPut", spec := "fnExactRecvPut", unfollowed := true, recurses := true, apart := false, narrowed := true }
def FnExactRecvPutUptoSaid : Prop := fnExactRecvPutUptoRow.holds Try.pinned (OpenSpec.upto fnExactRecvPutSpec)

/-- 'laws.FnExactRecvReady', WHERE WHAT IT READS IS OF BULK AT MOST 1048576: true; the input reads as it did. -/
def fnExactRecvReadyUptoRow : OpenClaim := { program := "ythdhjjbgegcncaa", sum := "dd7e39a55d2b04ae5081c9f049af6f9841a8409d0da2f008459918acdcaeab24", func := "loop.example/multipathtransport/laws.FnExactRecvReady", spec := "fnExactRecvReady", apart := false, narrowed := true }
def FnExactRecvReadyUptoSaid : Prop := fnExactRecvReadyUptoRow.holds Try.pinned (OpenSpec.upto fnExactRecvReadySpec)

/-- 'laws.FnExactRecvRead', WHERE WHAT IT READS IS OF BULK AT MOST 1048576: true; the input reads as it did. -/
def fnExactRecvReadUptoRow : OpenClaim := { program := "ythdhjjbgegcncaa", sum := "dd7e39a55d2b04ae5081c9f049af6f9841a8409d0da2f008459918acdcaeab24", func := "loop.example/multipathtransport/laws.FnExactRecvRead", spec := "fnExactRecvRead", apart := false, narrowed := true }
def FnExactRecvReadUptoSaid : Prop := fnExactRecvReadUptoRow.holds Try.pinned (OpenSpec.upto fnExactRecvReadSpec)

/-- 'laws.FnExactRecvEnded', WHERE WHAT IT READS IS OF BULK AT MOST 1048576: true; the input reads as it did. -/
def fnExactRecvEndedUptoRow : OpenClaim := { program := "ythdhjjbgegcncaa", sum := "dd7e39a55d2b04ae5081c9f049af6f9841a8409d0da2f008459918acdcaeab24", func := "loop.example/multipathtransport/laws.FnExactRecvEnded", spec := "fnExactRecvEnded", apart := false, narrowed := true }
def FnExactRecvEndedUptoSaid : Prop := fnExactRecvEndedUptoRow.holds Try.pinned (OpenSpec.upto fnExactRecvEndedSpec)

/-- 'laws.FnExactRecvGrant', WHERE WHAT IT READS IS OF BULK AT MOST 1048576: true; the input reads as it did. -/
def fnExactRecvGrantUptoRow : OpenClaim := { program := "ythdhjjbgegcncaa", sum := "dd7e39a55d2b04ae5081c9f049af6f9841a8409d0da2f008459918acdcaeab24", func := "loop.example/multipathtransport/laws.FnExactRecvGrant", spec := "fnExactRecvGrant", apart := false, narrowed := true }
def FnExactRecvGrantUptoSaid : Prop := fnExactRecvGrantUptoRow.holds Try.pinned (OpenSpec.upto fnExactRecvGrantSpec)

end Rows
end Go.Proofs.Ythdhjjbgegcncaa
