/-
  No cell of these rows narrows 'for every input' (looked for: loops, veiled, ifaces, maps, wideKeys, modest, calm, conditions, laid).
  DERIVED. THE GIVEN ROWS OF THIS SEAT. 6 by the template 'for every input the law returns true; each argument reads behind the call as it read before'; 0 by the template 'total and deterministic' (their statements: YtccolpaenmebeaaTotals.lean).
  GIVEN WITH THE SEED: the statements are not yours to turn. If you find one false, say at which input.
  Laid BY PROGRAM, IN A SANDBOX (cutbox-rows.mjs): the forced cells as the released guide's own fill.sh prints them over the translation 58fce46b1f6517a1… (all of the seat's roots in one cut). By AI agents, Wed Nov 11 2026. No macro, syntax, notation, axiom, sorry.
-/
import Derived.Test.YtccolpaenmebeaaChecked
import GoSem.Claim
import GoSem.ClaimJoined
import GoSem.ClaimMapViews
import Derived.JoinedTies
import Derived.KernelRfl
namespace Go.Proofs.Ytccolpaenmebeaa
/- THE CELL 'sum', in the pinned program and in every row, IS THE sha256 OF THE DUMP (.gsa) THAT YtccolpaenmebeaaProg.lean LOADS. Nothing in Lean hashes anything: it is a label: what it is worth is what the hold of that sum in a sandbox is worth. -/
noncomputable def Try.pinned : Pinned := { name := "ytccolpaenmebeaa", sum := "58fce46b1f6517a110fa511b7bb41ae106aff8d400920874de3e8bb966df023f", checked := Try.checked }
namespace Rows
def none {H : Type} : Left H := { results := [], args := [] }

/-- 'laws.FnExactLossNew': WHATEVER THE INPUT: true; the input reads as it did. -/
def fnExactLossNewSpec : ChangeSpec := { name := "fnExactLossNew", fn := fun _ => fun
  | [] => { results := [.lit (.bool true)], args := [] }
  | _ => none }
def fnExactLossNewRow : OpenClaim := { program := "ytccolpaenmebeaa", sum := "58fce46b1f6517a110fa511b7bb41ae106aff8d400920874de3e8bb966df023f", func := "loop.example/multipathtransport/laws.FnExactLossNew", spec := "fnExactLossNew", apart := false }
def FnExactLossNewSaid : Prop := fnExactLossNewRow.holds Try.pinned (OpenSpec.ofChange fnExactLossNewSpec)

/-- ITS FALSE NEIGHBOUR: 'it returns false'. Refute it at one input. -/
def fnExactLossNewWrong : ChangeSpec := { name := "fnExactLossNew", fn := fun _ => fun
  | [] => { results := [.lit (.bool false)], args := [] }
  | _ => none }
def FnExactLossNewWrongFalsely : Prop := fnExactLossNewRow.holds Try.pinned (OpenSpec.ofChange fnExactLossNewWrong)

/-- 'laws.FnExactLossValid': WHATEVER THE INPUT: true; the input reads as it did. -/
def fnExactLossValidSpec : ChangeSpec := { name := "fnExactLossValid", fn := fun _ => fun
  | [d] => { results := [.lit (.bool true)], args := [d] }
  | _ => none }
def fnExactLossValidRow : OpenClaim := { program := "ytccolpaenmebeaa", sum := "58fce46b1f6517a110fa511b7bb41ae106aff8d400920874de3e8bb966df023f", func := "loop.example/multipathtransport/laws.FnExactLossValid", spec := "fnExactLossValid", apart := false }
def FnExactLossValidSaid : Prop := fnExactLossValidRow.holds Try.pinned (OpenSpec.ofChange fnExactLossValidSpec)

/-- ITS FALSE NEIGHBOUR: 'it returns false'. Refute it at one input. -/
def fnExactLossValidWrong : ChangeSpec := { name := "fnExactLossValid", fn := fun _ => fun
  | [d] => { results := [.lit (.bool false)], args := [d] }
  | _ => none }
def FnExactLossValidWrongFalsely : Prop := fnExactLossValidRow.holds Try.pinned (OpenSpec.ofChange fnExactLossValidWrong)

/-- 'laws.FnExactLossSend': WHATEVER THE INPUT: true; the input reads as it did. -/
def fnExactLossSendSpec : ChangeSpec := { name := "fnExactLossSend", fn := fun _ => fun
  | [d1, d2, d3] => { results := [.lit (.bool true)], args := [d1, d2, d3] }
  | _ => none }
def fnExactLossSendRow : OpenClaim := { program := "ytccolpaenmebeaa", sum := "58fce46b1f6517a110fa511b7bb41ae106aff8d400920874de3e8bb966df023f", func := "loop.example/multipathtransport/laws.FnExactLossSend", spec := "fnExactLossSend", apart := false }
def FnExactLossSendSaid : Prop := fnExactLossSendRow.holds Try.pinned (OpenSpec.ofChange fnExactLossSendSpec)

/-- ITS FALSE NEIGHBOUR: 'it returns false'. Refute it at one input. -/
def fnExactLossSendWrong : ChangeSpec := { name := "fnExactLossSend", fn := fun _ => fun
  | [d1, d2, d3] => { results := [.lit (.bool false)], args := [d1, d2, d3] }
  | _ => none }
def FnExactLossSendWrongFalsely : Prop := fnExactLossSendRow.holds Try.pinned (OpenSpec.ofChange fnExactLossSendWrong)

/-- 'laws.FnExactLossAck': WHATEVER THE INPUT: true; the input reads as it did. -/
def fnExactLossAckSpec : ChangeSpec := { name := "fnExactLossAck", fn := fun _ => fun
  | [d1, d2, d3, d4] => { results := [.lit (.bool true)], args := [d1, d2, d3, d4] }
  | _ => none }
def fnExactLossAckRow : OpenClaim := { program := "ytccolpaenmebeaa", sum := "58fce46b1f6517a110fa511b7bb41ae106aff8d400920874de3e8bb966df023f", func := "loop.example/multipathtransport/laws.FnExactLossAck", spec := "fnExactLossAck", unfollowed := true, recurses := true, apart := false }
def FnExactLossAckSaid : Prop := fnExactLossAckRow.holds Try.pinned (OpenSpec.ofChange fnExactLossAckSpec)

/-- ITS FALSE NEIGHBOUR: 'it returns false'. Refute it at one input. -/
def fnExactLossAckWrong : ChangeSpec := { name := "fnExactLossAck", fn := fun _ => fun
  | [d1, d2, d3, d4] => { results := [.lit (.bool false)], args := [d1, d2, d3, d4] }
  | _ => none }
def FnExactLossAckWrongFalsely : Prop := fnExactLossAckRow.holds Try.pinned (OpenSpec.ofChange fnExactLossAckWrong)

/-- 'laws.FnExactLossTimer': WHATEVER THE INPUT: true; the input reads as it did. -/
def fnExactLossTimerSpec : ChangeSpec := { name := "fnExactLossTimer", fn := fun _ => fun
  | [d1, d2] => { results := [.lit (.bool true)], args := [d1, d2] }
  | _ => none }
def fnExactLossTimerRow : OpenClaim := { program := "ytccolpaenmebeaa", sum := "58fce46b1f6517a110fa511b7bb41ae106aff8d400920874de3e8bb966df023f", func := "loop.example/multipathtransport/laws.FnExactLossTimer", spec := "fnExactLossTimer", apart := false }
def FnExactLossTimerSaid : Prop := fnExactLossTimerRow.holds Try.pinned (OpenSpec.ofChange fnExactLossTimerSpec)

/-- ITS FALSE NEIGHBOUR: 'it returns false'. Refute it at one input. -/
def fnExactLossTimerWrong : ChangeSpec := { name := "fnExactLossTimer", fn := fun _ => fun
  | [d1, d2] => { results := [.lit (.bool false)], args := [d1, d2] }
  | _ => none }
def FnExactLossTimerWrongFalsely : Prop := fnExactLossTimerRow.holds Try.pinned (OpenSpec.ofChange fnExactLossTimerWrong)

/-- 'laws.FnExactLossBytes': WHATEVER THE INPUT: true; the input reads as it did. -/
def fnExactLossBytesSpec : ChangeSpec := { name := "fnExactLossBytes", fn := fun _ => fun
  | [d] => { results := [.lit (.bool true)], args := [d] }
  | _ => none }
def fnExactLossBytesRow : OpenClaim := { program := "ytccolpaenmebeaa", sum := "58fce46b1f6517a110fa511b7bb41ae106aff8d400920874de3e8bb966df023f", func := "loop.example/multipathtransport/laws.FnExactLossBytes", spec := "fnExactLossBytes", apart := false }
def FnExactLossBytesSaid : Prop := fnExactLossBytesRow.holds Try.pinned (OpenSpec.ofChange fnExactLossBytesSpec)

/-- ITS FALSE NEIGHBOUR: 'it returns false'. Refute it at one input. -/
def fnExactLossBytesWrong : ChangeSpec := { name := "fnExactLossBytes", fn := fun _ => fun
  | [d] => { results := [.lit (.bool false)], args := [d] }
  | _ => none }
def FnExactLossBytesWrongFalsely : Prop := fnExactLossBytesRow.holds Try.pinned (OpenSpec.ofChange fnExactLossBytesWrong)

/- THE SECOND FORM. 'bulk': how many values and letters a reading holds, each counted each time it is reached (what is shared counts as often as it is met; a slice's spare places count too). A statement '..UptoSaid' is the law's where the arguments, and the package variables that the reading takes, are together of bulk at most 1048576: NARROWER than '..Said'. Prove '..Said' where nothing that the law and all that it calls make is longer than what came in: it says more and counts as full. Else prove '..UptoSaid'. A law counts once. -/
mutual
def uptoBulk {H : Type} : DataW H → Nat
  | .lit (.string bytes) => bytes.length + 1
  | .lit _ => 1
  | .nil => 1
  | .ptr d => uptoBulk d + 1
  | .slice elems spare => uptoBulkAll elems + uptoBulkAll spare + 1
  | .agg parts => uptoBulkAll parts + 1
  | .iface _ d => uptoBulk d + 1
  | .map entries => uptoBulkEntries entries + 1
  | .held _ => 1
def uptoBulkAll {H : Type} : List (DataW H) → Nat
  | [] => 0
  | d :: r => uptoBulk d + uptoBulkAll r
def uptoBulkEntries {H : Type} : List (Lit × DataW H) → Nat
  | [] => 0
  | x :: r => uptoBulkEntry x + uptoBulkEntries r
def uptoBulkEntry {H : Type} : Lit × DataW H → Nat
  | (.string bytes, d) => bytes.length + uptoBulk d + 1
  | (_, d) => uptoBulk d + 1
 end
def uptoSmall : (H : Type) → List (DataW H) → Bool := fun _ ds => decide (uptoBulkAll ds ≤ 1048576)
def OpenSpec.upto (s : _root_.Go.ChangeSpec) : _root_.Go.OpenSpec := { _root_.Go.OpenSpec.ofChange s with cond := some uptoSmall }

/-- 'laws.FnExactLossNew', WHERE WHAT IT READS IS OF BULK AT MOST 1048576: true; the input reads as it did. -/
def fnExactLossNewUptoRow : OpenClaim := { program := "ytccolpaenmebeaa", sum := "58fce46b1f6517a110fa511b7bb41ae106aff8d400920874de3e8bb966df023f", func := "loop.example/multipathtransport/laws.FnExactLossNew", spec := "fnExactLossNew", apart := false, narrowed := true }
def FnExactLossNewUptoSaid : Prop := fnExactLossNewUptoRow.holds Try.pinned (OpenSpec.upto fnExactLossNewSpec)

/-- 'laws.FnExactLossValid', WHERE WHAT IT READS IS OF BULK AT MOST 1048576: true; the input reads as it did. -/
def fnExactLossValidUptoRow : OpenClaim := { program := "ytccolpaenmebeaa", sum := "58fce46b1f6517a110fa511b7bb41ae106aff8d400920874de3e8bb966df023f", func := "loop.example/multipathtransport/laws.FnExactLossValid", spec := "fnExactLossValid", apart := false, narrowed := true }
def FnExactLossValidUptoSaid : Prop := fnExactLossValidUptoRow.holds Try.pinned (OpenSpec.upto fnExactLossValidSpec)

/-- 'laws.FnExactLossSend', WHERE WHAT IT READS IS OF BULK AT MOST 1048576: true; the input reads as it did. -/
def fnExactLossSendUptoRow : OpenClaim := { program := "ytccolpaenmebeaa", sum := "58fce46b1f6517a110fa511b7bb41ae106aff8d400920874de3e8bb966df023f", func := "loop.example/multipathtransport/laws.FnExactLossSend", spec := "fnExactLossSend", apart := false, narrowed := true }
def FnExactLossSendUptoSaid : Prop := fnExactLossSendUptoRow.holds Try.pinned (OpenSpec.upto fnExactLossSendSpec)

/-- 'laws.FnExactLossAck', WHERE WHAT IT READS IS OF BULK AT MOST 1048576: true; the input reads as it did. -/
def fnExactLossAckUptoRow : OpenClaim := { program := "ytccolpaenmebeaa", sum := "58fce46b1f6517a110fa511b7bb41ae106aff8d400920874de3e8bb966df023f", func := "loop.example/multipathtransport/laws.FnExactLossAck", spec := "fnExactLossAck", unfollowed := true, recurses := true, apart := false, narrowed := true }
def FnExactLossAckUptoSaid : Prop := fnExactLossAckUptoRow.holds Try.pinned (OpenSpec.upto fnExactLossAckSpec)

/-- 'laws.FnExactLossTimer', WHERE WHAT IT READS IS OF BULK AT MOST 1048576: true; the input reads as it did. -/
def fnExactLossTimerUptoRow : OpenClaim := { program := "ytccolpaenmebeaa", sum := "58fce46b1f6517a110fa511b7bb41ae106aff8d400920874de3e8bb966df023f", func := "loop.example/multipathtransport/laws.FnExactLossTimer", spec := "fnExactLossTimer", apart := false, narrowed := true }
def FnExactLossTimerUptoSaid : Prop := fnExactLossTimerUptoRow.holds Try.pinned (OpenSpec.upto fnExactLossTimerSpec)

/-- 'laws.FnExactLossBytes', WHERE WHAT IT READS IS OF BULK AT MOST 1048576: true; the input reads as it did. -/
def fnExactLossBytesUptoRow : OpenClaim := { program := "ytccolpaenmebeaa", sum := "58fce46b1f6517a110fa511b7bb41ae106aff8d400920874de3e8bb966df023f", func := "loop.example/multipathtransport/laws.FnExactLossBytes", spec := "fnExactLossBytes", apart := false, narrowed := true }
def FnExactLossBytesUptoSaid : Prop := fnExactLossBytesUptoRow.holds Try.pinned (OpenSpec.upto fnExactLossBytesSpec)

end Rows
end Go.Proofs.Ytccolpaenmebeaa
