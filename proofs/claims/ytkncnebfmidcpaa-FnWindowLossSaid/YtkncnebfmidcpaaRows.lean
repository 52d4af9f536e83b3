/-
  No cell of these rows narrows 'for every input' (looked for: loops, veiled, ifaces, maps, wideKeys, modest, calm, conditions, laid).
  DERIVED. THE GIVEN ROWS OF THIS SEAT. 11 by the template 'for every input the law returns true; each argument reads behind the call as it read before'; 0 by the template 'total and deterministic' (their statements: YtkncnebfmidcpaaTotals.lean).
  GIVEN WITH THE SEED: the statements are not yours to turn. If you find one false, say at which input.
  Laid BY PROGRAM, IN A SANDBOX (cutbox-rows.mjs): the forced cells as the released guide's own fill.sh prints them over the translation 4302df35e3aa2c77… (all of the seat's roots in one cut). By AI agents, Wed Nov 11 2026. No macro, syntax, notation, axiom, sorry.
-/
import Derived.Test.YtkncnebfmidcpaaChecked
import GoSem.Claim
import GoSem.ClaimJoined
import GoSem.ClaimMapViews
import Derived.JoinedTies
import Derived.KernelRfl
namespace Go.Proofs.Ytkncnebfmidcpaa
/- THE CELL 'sum', in the pinned program and in every row, IS THE sha256 OF THE DUMP (.gsa) THAT YtkncnebfmidcpaaProg.lean LOADS. Nothing in Lean hashes anything: it is a label: what it is worth is what the hold of that sum in a sandbox is worth. -/
noncomputable def Try.pinned : Pinned := { name := "ytkncnebfmidcpaa", sum := "4302df35e3aa2c778fdd59c0098c48f0d07fe55c33962a97ec3683f612fcd9cc", checked := Try.checked }
namespace Rows
def none {H : Type} : Left H := { results := [], args := [] }

/-- 'laws.FnWindowFair': WHATEVER THE INPUT: true; the input reads as it did. -/
def fnWindowFairSpec : ChangeSpec := { name := "fnWindowFair", fn := fun _ => fun
  | [d] => { results := [.lit (.bool true)], args := [d] }
  | _ => none }
def fnWindowFairRow : OpenClaim := { program := "ytkncnebfmidcpaa", sum := "4302df35e3aa2c778fdd59c0098c48f0d07fe55c33962a97ec3683f612fcd9cc", func := "loop.example/multipathtransport/laws.FnWindowFair", spec := "fnWindowFair", unfollowed := true, recurses := true, apart := false }
def FnWindowFairSaid : Prop := fnWindowFairRow.holds Try.pinned (OpenSpec.ofChange fnWindowFairSpec)

/-- ITS FALSE NEIGHBOUR: 'it returns false'. Refute it at one input. -/
def fnWindowFairWrong : ChangeSpec := { name := "fnWindowFair", fn := fun _ => fun
  | [d] => { results := [.lit (.bool false)], args := [d] }
  | _ => none }
def FnWindowFairWrongFalsely : Prop := fnWindowFairRow.holds Try.pinned (OpenSpec.ofChange fnWindowFairWrong)

/-- 'laws.FnWindowSingle': WHATEVER THE INPUT: true; the input reads as it did. -/
def fnWindowSingleSpec : ChangeSpec := { name := "fnWindowSingle", fn := fun _ => fun
  | [d] => { results := [.lit (.bool true)], args := [d] }
  | _ => none }
def fnWindowSingleRow : OpenClaim := { program := "ytkncnebfmidcpaa", sum := "4302df35e3aa2c778fdd59c0098c48f0d07fe55c33962a97ec3683f612fcd9cc", func := "loop.example/multipathtransport/laws.FnWindowSingle", spec := "fnWindowSingle", unfollowed := true, recurses := true, apart := false }
def FnWindowSingleSaid : Prop := fnWindowSingleRow.holds Try.pinned (OpenSpec.ofChange fnWindowSingleSpec)

/-- ITS FALSE NEIGHBOUR: 'it returns false'. Refute it at one input. -/
def fnWindowSingleWrong : ChangeSpec := { name := "fnWindowSingle", fn := fun _ => fun
  | [d] => { results := [.lit (.bool false)], args := [d] }
  | _ => none }
def FnWindowSingleWrongFalsely : Prop := fnWindowSingleRow.holds Try.pinned (OpenSpec.ofChange fnWindowSingleWrong)

/-- 'laws.FnWindowCopies': WHATEVER THE INPUT: true; the input reads as it did. -/
def fnWindowCopiesSpec : ChangeSpec := { name := "fnWindowCopies", fn := fun _ => fun
  | [d1, d2] => { results := [.lit (.bool true)], args := [d1, d2] }
  | _ => none }
def fnWindowCopiesRow : OpenClaim := { program := "ytkncnebfmidcpaa", sum := "4302df35e3aa2c778fdd59c0098c48f0d07fe55c33962a97ec3683f612fcd9cc", func := "loop.example/multipathtransport/laws.FnWindowCopies", spec := "fnWindowCopies", unfollowed := true, recurses := true, apart := false }
def FnWindowCopiesSaid : Prop := fnWindowCopiesRow.holds Try.pinned (OpenSpec.ofChange fnWindowCopiesSpec)

/-- ITS FALSE NEIGHBOUR: 'it returns false'. Refute it at one input. -/
def fnWindowCopiesWrong : ChangeSpec := { name := "fnWindowCopies", fn := fun _ => fun
  | [d1, d2] => { results := [.lit (.bool false)], args := [d1, d2] }
  | _ => none }
def FnWindowCopiesWrongFalsely : Prop := fnWindowCopiesRow.holds Try.pinned (OpenSpec.ofChange fnWindowCopiesWrong)

/-- 'laws.FnWindowOrder': WHATEVER THE INPUT: true; the input reads as it did. -/
def fnWindowOrderSpec : ChangeSpec := { name := "fnWindowOrder", fn := fun _ => fun
  | [d] => { results := [.lit (.bool true)], args := [d] }
  | _ => none }
def fnWindowOrderRow : OpenClaim := { program := "ytkncnebfmidcpaa", sum := "4302df35e3aa2c778fdd59c0098c48f0d07fe55c33962a97ec3683f612fcd9cc", func := "loop.example/multipathtransport/laws.FnWindowOrder", spec := "fnWindowOrder", unfollowed := true, recurses := true, apart := false }
def FnWindowOrderSaid : Prop := fnWindowOrderRow.holds Try.pinned (OpenSpec.ofChange fnWindowOrderSpec)

/-- ITS FALSE NEIGHBOUR: 'it returns false'. Refute it at one input. -/
def fnWindowOrderWrong : ChangeSpec := { name := "fnWindowOrder", fn := fun _ => fun
  | [d] => { results := [.lit (.bool false)], args := [d] }
  | _ => none }
def FnWindowOrderWrongFalsely : Prop := fnWindowOrderRow.holds Try.pinned (OpenSpec.ofChange fnWindowOrderWrong)

/-- 'laws.FnWindowAckOne': WHATEVER THE INPUT: true; the input reads as it did. -/
def fnWindowAckOneSpec : ChangeSpec := { name := "fnWindowAckOne", fn := fun _ => fun
  | [d] => { results := [.lit (.bool true)], args := [d] }
  | _ => none }
def fnWindowAckOneRow : OpenClaim := { program := "ytkncnebfmidcpaa", sum := "4302df35e3aa2c778fdd59c0098c48f0d07fe55c33962a97ec3683f612fcd9cc", func := "loop.example/multipathtransport/laws.FnWindowAckOne", spec := "fnWindowAckOne", unfollowed := true, recurses := true, apart := false }
def FnWindowAckOneSaid : Prop := fnWindowAckOneRow.holds Try.pinned (OpenSpec.ofChange fnWindowAckOneSpec)

/-- ITS FALSE NEIGHBOUR: 'it returns false'. Refute it at one input. -/
def fnWindowAckOneWrong : ChangeSpec := { name := "fnWindowAckOne", fn := fun _ => fun
  | [d] => { results := [.lit (.bool false)], args := [d] }
  | _ => none }
def FnWindowAckOneWrongFalsely : Prop := fnWindowAckOneRow.holds Try.pinned (OpenSpec.ofChange fnWindowAckOneWrong)

/-- 'laws.FnWindowSlowStart': WHATEVER THE INPUT: true; the input reads as it did. -/
def fnWindowSlowStartSpec : ChangeSpec := { name := "fnWindowSlowStart", fn := fun _ => fun
  | [d] => { results := [.lit (.bool true)], args := [d] }
  | _ => none }
def fnWindowSlowStartRow : OpenClaim := { program := "ytkncnebfmidcpaa", sum := "4302df35e3aa2c778fdd59c0098c48f0d07fe55c33962a97ec3683f612fcd9cc", func := "loop.example/multipathtransport/laws.FnWindowSlowStart", spec := "fnWindowSlowStart", unfollowed := true, recurses := true, apart := false }
def FnWindowSlowStartSaid : Prop := fnWindowSlowStartRow.holds Try.pinned (OpenSpec.ofChange fnWindowSlowStartSpec)

/-- ITS FALSE NEIGHBOUR: 'it returns false'. Refute it at one input. -/
def fnWindowSlowStartWrong : ChangeSpec := { name := "fnWindowSlowStart", fn := fun _ => fun
  | [d] => { results := [.lit (.bool false)], args := [d] }
  | _ => none }
def FnWindowSlowStartWrongFalsely : Prop := fnWindowSlowStartRow.holds Try.pinned (OpenSpec.ofChange fnWindowSlowStartWrong)

/-- 'laws.FnWindowCredit': WHATEVER THE INPUT: true; the input reads as it did. -/
def fnWindowCreditSpec : ChangeSpec := { name := "fnWindowCredit", fn := fun _ => fun
  | [d] => { results := [.lit (.bool true)], args := [d] }
  | _ => none }
def fnWindowCreditRow : OpenClaim := { program := "ytkncnebfmidcpaa", sum := "4302df35e3aa2c778fdd59c0098c48f0d07fe55c33962a97ec3683f612fcd9cc", func := "loop.example/multipathtransport/laws.FnWindowCredit", spec := "fnWindowCredit", unfollowed := true, recurses := true, apart := false }
def FnWindowCreditSaid : Prop := fnWindowCreditRow.holds Try.pinned (OpenSpec.ofChange fnWindowCreditSpec)

/-- ITS FALSE NEIGHBOUR: 'it returns false'. Refute it at one input. -/
def fnWindowCreditWrong : ChangeSpec := { name := "fnWindowCredit", fn := fun _ => fun
  | [d] => { results := [.lit (.bool false)], args := [d] }
  | _ => none }
def FnWindowCreditWrongFalsely : Prop := fnWindowCreditRow.holds Try.pinned (OpenSpec.ofChange fnWindowCreditWrong)

/-- 'laws.FnWindowLoss': WHATEVER THE INPUT: true; the input reads as it did. -/
def fnWindowLossSpec : ChangeSpec := { name := "fnWindowLoss", fn := fun _ => fun
  | [d] => { results := [.lit (.bool true)], args := [d] }
  | _ => none }
def fnWindowLossRow : OpenClaim := { program := "ytkncnebfmidcpaa", sum := "4302df35e3aa2c778fdd59c0098c48f0d07fe55c33962a97ec3683f612fcd9cc", func := "loop.example/multipathtransport/laws.FnWindowLoss", spec := "fnWindowLoss", unfollowed := true, recurses := true, apart := false }
def FnWindowLossSaid : Prop := fnWindowLossRow.holds Try.pinned (OpenSpec.ofChange fnWindowLossSpec)

/-- ITS FALSE NEIGHBOUR: 'it returns false'. Refute it at one input. -/
def fnWindowLossWrong : ChangeSpec := { name := "fnWindowLoss", fn := fun _ => fun
  | [d] => { results := [.lit (.bool false)], args := [d] }
  | _ => none }
def FnWindowLossWrongFalsely : Prop := fnWindowLossRow.holds Try.pinned (OpenSpec.ofChange fnWindowLossWrong)

/-- 'laws.FnWindowValid': WHATEVER THE INPUT: true; the input reads as it did. -/
def fnWindowValidSpec : ChangeSpec := { name := "fnWindowValid", fn := fun _ => fun
  | [d] => { results := [.lit (.bool true)], args := [d] }
  | _ => none }
def fnWindowValidRow : OpenClaim := { program := "ytkncnebfmidcpaa", sum := "4302df35e3aa2c778fdd59c0098c48f0d07fe55c33962a97ec3683f612fcd9cc", func := "loop.example/multipathtransport/laws.FnWindowValid", spec := "fnWindowValid", unfollowed := true, recurses := true, apart := false }
def FnWindowValidSaid : Prop := fnWindowValidRow.holds Try.pinned (OpenSpec.ofChange fnWindowValidSpec)

/-- ITS FALSE NEIGHBOUR: 'it returns false'. Refute it at one input. -/
def fnWindowValidWrong : ChangeSpec := { name := "fnWindowValid", fn := fun _ => fun
  | [d] => { results := [.lit (.bool false)], args := [d] }
  | _ => none }
def FnWindowValidWrongFalsely : Prop := fnWindowValidRow.holds Try.pinned (OpenSpec.ofChange fnWindowValidWrong)

/-- 'laws.FnWindowTotal': WHATEVER THE INPUT: true; the input reads as it did. -/
def fnWindowTotalSpec : ChangeSpec := { name := "fnWindowTotal", fn := fun _ => fun
  | [d1, d2] => { results := [.lit (.bool true)], args := [d1, d2] }
  | _ => none }
def fnWindowTotalRow : OpenClaim := { program := "ytkncnebfmidcpaa", sum := "4302df35e3aa2c778fdd59c0098c48f0d07fe55c33962a97ec3683f612fcd9cc", func := "loop.example/multipathtransport/laws.FnWindowTotal", spec := "fnWindowTotal", unfollowed := true, recurses := true, apart := false }
def FnWindowTotalSaid : Prop := fnWindowTotalRow.holds Try.pinned (OpenSpec.ofChange fnWindowTotalSpec)

/-- ITS FALSE NEIGHBOUR: 'it returns false'. Refute it at one input. -/
def fnWindowTotalWrong : ChangeSpec := { name := "fnWindowTotal", fn := fun _ => fun
  | [d1, d2] => { results := [.lit (.bool false)], args := [d1, d2] }
  | _ => none }
def FnWindowTotalWrongFalsely : Prop := fnWindowTotalRow.holds Try.pinned (OpenSpec.ofChange fnWindowTotalWrong)

/-- 'laws.FnWindowLosses': WHATEVER THE INPUT: true; the input reads as it did. -/
def fnWindowLossesSpec : ChangeSpec := { name := "fnWindowLosses", fn := fun _ => fun
  | [d] => { results := [.lit (.bool true)], args := [d] }
  | _ => none }
def fnWindowLossesRow : OpenClaim := { program := "ytkncnebfmidcpaa", sum := "4302df35e3aa2c778fdd59c0098c48f0d07fe55c33962a97ec3683f612fcd9cc", func := "loop.example/multipathtransport/laws.FnWindowLosses", spec := "fnWindowLosses", unfollowed := true, recurses := true, apart := false }
def FnWindowLossesSaid : Prop := fnWindowLossesRow.holds Try.pinned (OpenSpec.ofChange fnWindowLossesSpec)

/-- ITS FALSE NEIGHBOUR: 'it returns false'. Refute it at one input. -/
def fnWindowLossesWrong : ChangeSpec := { name := "fnWindowLosses", fn := fun _ => fun
  | [d] => { results := [.lit (.bool false)], args := [d] }
  | _ => none }
def FnWindowLossesWrongFalsely : Prop := fnWindowLossesRow.holds Try.pinned (OpenSpec.ofChange fnWindowLossesWrong)

/- THE SECOND FORM. 'bulk': how many values and letters a reading holds, each counted each time it is reached (what is shared counts as often as it is met; a slice's spare places count too). A statement '..UptoSaid' is the law's where the arguments, and the package variables that the reading takes, are together of bulk at most 1048576: NARROWER than '..Said'. Prove '..Said' where nothing that the law and all that it calls make is longer than what came in: it says more and counts as full. Else prove '..UptoSaid'. A law counts once. -/
mutual
def uptoBulk {H : Type} : DataW H → Nat
  | .lit (.string bytes) => bytes.length + 1
  | .lit _ => 1
  | .nil => 1
  | .ptr d => uptoBulk d + 1
  | .slice elems spare => uptoBulkAll elems + uptoBulkAll spare + 1
  | .agg parts => uptoBulkAll parts + 1
  | .iface _ d => uptoBulk d + 1
  | .map entries => uptoBulkEntries entries + 1
  | .held _ => 1
def uptoBulkAll {H : Type} : List (DataW H) → Nat
  | [] => 0
  | d :: r => uptoBulk d + uptoBulkAll r
def uptoBulkEntries {H : Type} : List (Lit × DataW H) → Nat
  | [] => 0
  | x :: r => uptoBulkEntry x + uptoBulkEntries r
def uptoBulkEntry {H : Type} : Lit × DataW H → Nat
  | (.string bytes, d) => bytes.length + uptoBulk d + 1
  | (_, d) => uptoBulk d + 1
 end
def uptoSmall : (H : Type) → List (DataW H) → Bool := fun _ ds => decide (uptoBulkAll ds ≤ 1048576)
def OpenSpec.upto (s : _root_.Go.ChangeSpec) : _root_.Go.OpenSpec := { _root_.Go.OpenSpec.ofChange s with cond := some uptoSmall }

/-- 'laws.FnWindowFair', WHERE WHAT IT READS IS OF BULK AT MOST 1048576: true; the input reads as it did. -/
def fnWindowFairUptoRow : OpenClaim := { program := "ytkncnebfmidcpaa", sum := "4302df35e3aa2c778fdd59c0098c48f0d07fe55c33962a97ec3683f612fcd9cc", func := "loop.example/multipathtransport/laws.FnWindowFair", spec := "fnWindowFair", unfollowed := true, recurses := true, apart := false, narrowed := true }
def FnWindowFairUptoSaid : Prop := fnWindowFairUptoRow.holds Try.pinned (OpenSpec.upto fnWindowFairSpec)

/-- 'laws.FnWindowSingle', WHERE WHAT IT READS IS OF BULK AT MOST 1048576: true; the input reads as it did. -/
def fnWindowSingleUptoRow : OpenClaim := { program := "ytkncnebfmidcpaa", sum := "4302df35e3aa2c778fdd59c0098c48f0d07fe55c33962a97ec3683f612fcd9cc", func := "loop.example/multipathtransport/laws.FnWindowSingle", spec := "fnWindowSingle", unfollowed := true, recurses := true, apart := false, narrowed := true }
def FnWindowSingleUptoSaid : Prop := fnWindowSingleUptoRow.holds Try.pinned (OpenSpec.upto fnWindowSingleSpec)

/-- 'laws.FnWindowCopies', WHERE WHAT IT READS IS OF BULK AT MOST 1048576: true; the input reads as it did. -/
def fnWindowCopiesUptoRow : OpenClaim := { program := "ytkncnebfmidcpaa", sum := "4302df35e3aa2c778fdd59c0098c48f0d07fe55c33962a97ec3683f612fcd9cc", func := "loop.example/multipathtransport/laws.FnWindowCopies", spec := "fnWindowCopies", unfollowed := true, recurses := true, apart := false, narrowed := true }
def FnWindowCopiesUptoSaid : Prop := fnWindowCopiesUptoRow.holds Try.pinned (OpenSpec.upto fnWindowCopiesSpec)

/-- 'laws.FnWindowOrder', WHERE WHAT IT READS IS OF BULK AT MOST 1048576: true; the input reads as it did. -/
def fnWindowOrderUptoRow : OpenClaim := { program := "ytkncnebfmidcpaa", sum := "4302df35e3aa2c778fdd59c0098c48f0d07fe55c33962a97ec3683f612fcd9cc", func := "loop.example/multipathtransport/laws.FnWindowOrder", spec := "fnWindowOrder", unfollowed := true, recurses := true, apart := false, narrowed := true }
def FnWindowOrderUptoSaid : Prop := fnWindowOrderUptoRow.holds Try.pinned (OpenSpec.upto fnWindowOrderSpec)

/-- 'laws.FnWindowAckOne', WHERE WHAT IT READS IS OF BULK AT MOST 1048576: true; the input reads as it did. -/
def fnWindowAckOneUptoRow : OpenClaim := { program := "ytkncnebfmidcpaa", sum := "4302df35e3aa2c778fdd59c0098c48f0d07fe55c33962a97ec3683f612fcd9cc", func := "loop.example/multipathtransport/laws.FnWindowAckOne", spec := "fnWindowAckOne", unfollowed := true, recurses := true, apart := false, narrowed := true }
def FnWindowAckOneUptoSaid : Prop := fnWindowAckOneUptoRow.holds Try.pinned (OpenSpec.upto fnWindowAckOneSpec)

/-- 'laws.FnWindowSlowStart', WHERE WHAT IT READS IS OF BULK AT MOST 1048576: true; the input reads as it did. -/
def fnWindowSlowStartUptoRow : OpenClaim := { program := "ytkncnebfmidcpaa", sum := "4302df35e3aa2c778fdd59c0098c48f0d07fe55c33962a97ec3683f612fcd9cc", func := "loop.example/multipathtransport/laws.FnWindowSlowStart", spec := "fnWindowSlowStart", unfollowed := true, recurses := true, apart := false, narrowed := true }
def FnWindowSlowStartUptoSaid : Prop := fnWindowSlowStartUptoRow.holds Try.pinned (OpenSpec.upto fnWindowSlowStartSpec)

/-- 'laws.FnWindowCredit', WHERE WHAT IT READS IS OF BULK AT MOST 1048576: true; the input reads as it did. -/
def fnWindowCreditUptoRow : OpenClaim := { program := "ytkncnebfmidcpaa", sum := "4302df35e3aa2c778fdd59c0098c48f0d07fe55c33962a97ec3683f612fcd9cc", func := "loop.example/multipathtransport/laws.FnWindowCredit", spec := "fnWindowCredit", unfollowed := true, recurses := true, apart := false, narrowed := true }
def FnWindowCreditUptoSaid : Prop := fnWindowCreditUptoRow.holds Try.pinned (OpenSpec.upto fnWindowCreditSpec)

/-- 'laws.FnWindowLoss', WHERE WHAT IT READS IS OF BULK AT MOST 1048576: true; the input reads as it did. -/
def fnWindowLossUptoRow : OpenClaim := { program := "ytkncnebfmidcpaa", sum := "4302df35e3aa2c778fdd59c0098c48f0d07fe55c33962a97ec3683f612fcd9cc", func := "loop.example/multipathtransport/laws.FnWindowLoss", spec := "fnWindowLoss", unfollowed := true, recurses := true, apart := false, narrowed := true }
def FnWindowLossUptoSaid : Prop := fnWindowLossUptoRow.holds Try.pinned (OpenSpec.upto fnWindowLossSpec)

/-- 'laws.FnWindowValid', WHERE WHAT IT READS IS OF BULK AT MOST 1048576: true; the input reads as it did. -/
def fnWindowValidUptoRow : OpenClaim := { program := "ytkncnebfmidcpaa", sum := "4302df35e3aa2c778fdd59c0098c48f0d07fe55c33962a97ec3683f612fcd9cc", func := "loop.example/multipathtransport/laws.FnWindowValid", spec := "fnWindowValid", unfollowed := true, recurses := true, apart := false, narrowed := true }
def FnWindowValidUptoSaid : Prop := fnWindowValidUptoRow.holds Try.pinned (OpenSpec.upto fnWindowValidSpec)

/-- 'laws.FnWindowTotal', WHERE WHAT IT READS IS OF BULK AT MOST 1048576: true; the input reads as it did. -/
def fnWindowTotalUptoRow : OpenClaim := { program := "ytkncnebfmidcpaa", sum := "4302df35e3aa2c778fdd59c0098c48f0d07fe55c33962a97ec3683f612fcd9cc", func := "loop.example/multipathtransport/laws.FnWindowTotal", spec := "fnWindowTotal", unfollowed := true, recurses := true, apart := false, narrowed := true }
def FnWindowTotalUptoSaid : Prop := fnWindowTotalUptoRow.holds Try.pinned (OpenSpec.upto fnWindowTotalSpec)

/-- 'laws.FnWindowLosses', WHERE WHAT IT READS IS OF BULK AT MOST 1048576: true; the input reads as it did. -/
def fnWindowLossesUptoRow : OpenClaim := { program := "ytkncnebfmidcpaa", sum := "4302df35e3aa2c778fdd59c0098c48f0d07fe55c33962a97ec3683f612fcd9cc", func := "loop.example/multipathtransport/laws.FnWindowLosses", spec := "fnWindowLosses", unfollowed := true, recurses := true, apart := false, narrowed := true }
def FnWindowLossesUptoSaid : Prop := fnWindowLossesUptoRow.holds Try.pinned (OpenSpec.upto fnWindowLossesSpec)

end Rows
end Go.Proofs.Ytkncnebfmidcpaa
