/-
  NARROWER THAN 'FOR EVERY INPUT', by the rows' own cells (each row's printed sentence says how): FnTokenLife: ifaces, laid · FnTokenAddress: ifaces, laid · FnTokenTag: ifaces, laid · FnTokenGenuine: ifaces, laid · FnExactTokenAccept: ifaces, laid.
  DERIVED. THE GIVEN ROWS OF THIS SEAT. 5 by the template 'for every input the law returns true; each argument reads behind the call as it read before'; 0 by the template 'total and deterministic' (their statements: YtbmlckhjjfipbaaDoorTotals.lean).
  GIVEN WITH THE SEED: the statements are not yours to turn. If you find one false, say at which input.
  Laid BY PROGRAM, IN A SANDBOX (cutbox-rows.mjs): the forced cells as the released guide's own fill.sh prints them over the translation 317b970228ddaa15… (all of the seat's roots in one cut). By AI agents, Wed Nov 11 2026. No macro, syntax, notation, axiom, sorry.
-/
import Derived.Test.YtbmlckhjjfipbaaDoorChecked
import GoSem.Claim
import GoSem.ClaimJoined
import GoSem.ClaimMapViews
import Derived.JoinedTies
import Derived.KernelRfl
namespace Go.Proofs.YtbmlckhjjfipbaaDoor
/- THE CELL 'sum', in the pinned program and in every row, IS THE sha256 OF THE DUMP (.gsa) THAT YtbmlckhjjfipbaaDoorProg.lean LOADS. Nothing in Lean hashes anything: it is a label: what it is worth is what the hold of that sum in a sandbox is worth. -/
noncomputable def Tryd.pinned : Pinned := { name := "ytbmlckhjjfipbaadoor", sum := "317b970228ddaa15bb8ab4d83019ae3ee8e8f46b13638fa2e246966720220758", checked := Tryd.checked }
namespace Rows
def none {H : Type} : Left H := { results := [], args := [] }

/- WHAT THE LISTED PACKAGE-LEVEL VARIABLES READ AS WHEN THE CALL BEGINS. Each datum BY PROGRAM (the guide's laid-datum.mjs) off the statement by which the dump's own 'gosem.cut.vars' lays the variable. In a bare row this is a premise. The card (YtbmlckhjjfipbaaDoorCards.lean) ties it to the program's text. -/
def laid_loop_example_multipathtransport_impl_errRejected {H : Type} : DataW H := .iface "*errors.errorString" (.ptr (.agg [.lit (.string [116, 111, 107, 101, 110, 32, 114, 101, 106, 101, 99, 116, 101, 100])]))

/-- 'laws.FnTokenLife': WHATEVER THE INPUT: true; the input reads as it did. -/
def fnTokenLifeSpec : ChangeSpec := { name := "fnTokenLife", vars := ["loop.example/multipathtransport/impl.errRejected"], fn := fun _ => fun
  | [d1, d2, g1] => { results := [.lit (.bool true)], args := [d1, d2], vars := [g1] }
  | _ => none }
def fnTokenLifeRow : OpenClaim := { program := "ytbmlckhjjfipbaadoor", sum := "317b970228ddaa15bb8ab4d83019ae3ee8e8f46b13638fa2e246966720220758", func := "loop.example/multipathtransport/laws.FnTokenLife", spec := "fnTokenLife", inPlace := ["internal/reflectlite.TypeOf"], unfollowed := true, recurses := true, named := ["loop.example/multipathtransport/impl.errRejected"], ifaces := true, apart := false, laid := [("loop.example/multipathtransport/impl.errRejected", laid_loop_example_multipathtransport_impl_errRejected)] }
def FnTokenLifeSaid : Prop := fnTokenLifeRow.holds Tryd.pinned (OpenSpec.ofChange fnTokenLifeSpec)

/-- ITS FALSE NEIGHBOUR: 'it returns false'. Refute it at one input. -/
def fnTokenLifeWrong : ChangeSpec := { name := "fnTokenLife", vars := ["loop.example/multipathtransport/impl.errRejected"], fn := fun _ => fun
  | [d1, d2, g1] => { results := [.lit (.bool false)], args := [d1, d2], vars := [g1] }
  | _ => none }
def FnTokenLifeWrongFalsely : Prop := fnTokenLifeRow.holds Tryd.pinned (OpenSpec.ofChange fnTokenLifeWrong)

/-- 'laws.FnTokenAddress': WHATEVER THE INPUT: true; the input reads as it did. -/
def fnTokenAddressSpec : ChangeSpec := { name := "fnTokenAddress", vars := ["loop.example/multipathtransport/impl.errRejected"], fn := fun _ => fun
  | [d1, d2, g1] => { results := [.lit (.bool true)], args := [d1, d2], vars := [g1] }
  | _ => none }
def fnTokenAddressRow : OpenClaim := { program := "ytbmlckhjjfipbaadoor", sum := "317b970228ddaa15bb8ab4d83019ae3ee8e8f46b13638fa2e246966720220758", func := "loop.example/multipathtransport/laws.FnTokenAddress", spec := "fnTokenAddress", inPlace := ["internal/reflectlite.TypeOf"], unfollowed := true, recurses := true, named := ["loop.example/multipathtransport/impl.errRejected"], ifaces := true, apart := false, laid := [("loop.example/multipathtransport/impl.errRejected", laid_loop_example_multipathtransport_impl_errRejected)] }
def FnTokenAddressSaid : Prop := fnTokenAddressRow.holds Tryd.pinned (OpenSpec.ofChange fnTokenAddressSpec)

/-- ITS FALSE NEIGHBOUR: 'it returns false'. Refute it at one input. -/
def fnTokenAddressWrong : ChangeSpec := { name := "fnTokenAddress", vars := ["loop.example/multipathtransport/impl.errRejected"], fn := fun _ => fun
  | [d1, d2, g1] => { results := [.lit (.bool false)], args := [d1, d2], vars := [g1] }
  | _ => none }
def FnTokenAddressWrongFalsely : Prop := fnTokenAddressRow.holds Tryd.pinned (OpenSpec.ofChange fnTokenAddressWrong)

/-- 'laws.FnTokenTag': WHATEVER THE INPUT: true; the input reads as it did. -/
def fnTokenTagSpec : ChangeSpec := { name := "fnTokenTag", vars := ["loop.example/multipathtransport/impl.errRejected"], fn := fun _ => fun
  | [d1, d2, g1] => { results := [.lit (.bool true)], args := [d1, d2], vars := [g1] }
  | _ => none }
def fnTokenTagRow : OpenClaim := { program := "ytbmlckhjjfipbaadoor", sum := "317b970228ddaa15bb8ab4d83019ae3ee8e8f46b13638fa2e246966720220758", func := "loop.example/multipathtransport/laws.FnTokenTag", spec := "fnTokenTag", inPlace := ["internal/reflectlite.TypeOf"], unfollowed := true, recurses := true, named := ["loop.example/multipathtransport/impl.errRejected"], ifaces := true, apart := false, laid := [("loop.example/multipathtransport/impl.errRejected", laid_loop_example_multipathtransport_impl_errRejected)] }
def FnTokenTagSaid : Prop := fnTokenTagRow.holds Tryd.pinned (OpenSpec.ofChange fnTokenTagSpec)

/-- ITS FALSE NEIGHBOUR: 'it returns false'. Refute it at one input. -/
def fnTokenTagWrong : ChangeSpec := { name := "fnTokenTag", vars := ["loop.example/multipathtransport/impl.errRejected"], fn := fun _ => fun
  | [d1, d2, g1] => { results := [.lit (.bool false)], args := [d1, d2], vars := [g1] }
  | _ => none }
def FnTokenTagWrongFalsely : Prop := fnTokenTagRow.holds Tryd.pinned (OpenSpec.ofChange fnTokenTagWrong)

/-- 'laws.FnTokenGenuine': WHATEVER THE INPUT: true; the input reads as it did. -/
def fnTokenGenuineSpec : ChangeSpec := { name := "fnTokenGenuine", vars := ["loop.example/multipathtransport/impl.errRejected"], fn := fun _ => fun
  | [d, g1] => { results := [.lit (.bool true)], args := [d], vars := [g1] }
  | _ => none }
def fnTokenGenuineRow : OpenClaim := { program := "ytbmlckhjjfipbaadoor", sum := "317b970228ddaa15bb8ab4d83019ae3ee8e8f46b13638fa2e246966720220758", func := "loop.example/multipathtransport/laws.FnTokenGenuine", spec := "fnTokenGenuine", inPlace := ["internal/reflectlite.TypeOf"], unfollowed := true, recurses := true, named := ["loop.example/multipathtransport/impl.errRejected"], ifaces := true, apart := false, laid := [("loop.example/multipathtransport/impl.errRejected", laid_loop_example_multipathtransport_impl_errRejected)] }
def FnTokenGenuineSaid : Prop := fnTokenGenuineRow.holds Tryd.pinned (OpenSpec.ofChange fnTokenGenuineSpec)

/-- ITS FALSE NEIGHBOUR: 'it returns false'. Refute it at one input. -/
def fnTokenGenuineWrong : ChangeSpec := { name := "fnTokenGenuine", vars := ["loop.example/multipathtransport/impl.errRejected"], fn := fun _ => fun
  | [d, g1] => { results := [.lit (.bool false)], args := [d], vars := [g1] }
  | _ => none }
def FnTokenGenuineWrongFalsely : Prop := fnTokenGenuineRow.holds Tryd.pinned (OpenSpec.ofChange fnTokenGenuineWrong)

/-- 'laws.FnExactTokenAccept': WHATEVER THE INPUT: true; the input reads as it did. -/
def fnExactTokenAcceptSpec : ChangeSpec := { name := "fnExactTokenAccept", vars := ["loop.example/multipathtransport/impl.errRejected"], fn := fun _ => fun
  | [d1, d2, d3, d4, g1] => { results := [.lit (.bool true)], args := [d1, d2, d3, d4], vars := [g1] }
  | _ => none }
def fnExactTokenAcceptRow : OpenClaim := { program := "ytbmlckhjjfipbaadoor", sum := "317b970228ddaa15bb8ab4d83019ae3ee8e8f46b13638fa2e246966720220758", func := "loop.example/multipathtransport/laws.FnExactTokenAccept", spec := "fnExactTokenAccept", inPlace := ["internal/reflectlite.TypeOf"], unfollowed := true, recurses := true, named := ["loop.example/multipathtransport/impl.errRejected"], ifaces := true, apart := false, laid := [("loop.example/multipathtransport/impl.errRejected", laid_loop_example_multipathtransport_impl_errRejected)] }
def FnExactTokenAcceptSaid : Prop := fnExactTokenAcceptRow.holds Tryd.pinned (OpenSpec.ofChange fnExactTokenAcceptSpec)

/-- ITS FALSE NEIGHBOUR: 'it returns false'. Refute it at one input. -/
def fnExactTokenAcceptWrong : ChangeSpec := { name := "fnExactTokenAccept", vars := ["loop.example/multipathtransport/impl.errRejected"], fn := fun _ => fun
  | [d1, d2, d3, d4, g1] => { results := [.lit (.bool false)], args := [d1, d2, d3, d4], vars := [g1] }
  | _ => none }
def FnExactTokenAcceptWrongFalsely : Prop := fnExactTokenAcceptRow.holds Tryd.pinned (OpenSpec.ofChange fnExactTokenAcceptWrong)

/- THE SECOND FORM. 'bulk': how many values and letters a reading holds, each counted each time it is reached (what is shared counts as often as it is met; a slice's spare places count too). A statement '..UptoSaid' is the law's where the arguments, and the package variables that the reading takes, are together of bulk at most 1048576: NARROWER than '..Said'. Prove '..Said' where nothing that the law and all that it calls make is longer than what came in: it says more and counts as full. Else prove '..UptoSaid'. A law counts once. -/
mutual
def uptoBulk {H : Type} : DataW H → Nat
  | .lit (.string bytes) => bytes.length + 1
  | .lit _ => 1
  | .nil => 1
  | .ptr d => uptoBulk d + 1
  | .slice elems spare => uptoBulkAll elems + uptoBulkAll spare + 1
  | .agg parts => uptoBulkAll parts + 1
  | .iface _ d => uptoBulk d + 1
  | .map entries => uptoBulkEntries entries + 1
  | .held _ => 1
def uptoBulkAll {H : Type} : List (DataW H) → Nat
  | [] => 0
  | d :: r => uptoBulk d + uptoBulkAll r
def uptoBulkEntries {H : Type} : List (Lit × DataW H) → Nat
  | [] => 0
  | x :: r => uptoBulkEntry x + uptoBulkEntries r
def uptoBulkEntry {H : Type} : Lit × DataW H → Nat
  | (.string bytes, d) => bytes.length + uptoBulk d + 1
  | (_, d) => uptoBulk d + 1
 end
def uptoSmall : (H : Type) → List (DataW H) → Bool := fun _ ds => decide (uptoBulkAll ds ≤ 1048576)
def OpenSpec.upto (s : _root_.Go.ChangeSpec) : _root_.Go.OpenSpec := { _root_.Go.OpenSpec.ofChange s with cond := some uptoSmall }

/-- 'laws.FnTokenLife', WHERE WHAT IT READS IS OF BULK AT MOST 1048576: true; the input reads as it did. -/
def fnTokenLifeUptoRow : OpenClaim := { program := "ytbmlckhjjfipbaadoor", sum := "317b970228ddaa15bb8ab4d83019ae3ee8e8f46b13638fa2e246966720220758", func := "loop.example/multipathtransport/laws.FnTokenLife", spec := "fnTokenLife", inPlace := ["internal/reflectlite.TypeOf"], unfollowed := true, recurses := true, named := ["loop.example/multipathtransport/impl.errRejected"], ifaces := true, apart := false, laid := [("loop.example/multipathtransport/impl.errRejected", laid_loop_example_multipathtransport_impl_errRejected)], narrowed := true }
def FnTokenLifeUptoSaid : Prop := fnTokenLifeUptoRow.holds Tryd.pinned (OpenSpec.upto fnTokenLifeSpec)

/-- 'laws.FnTokenAddress', WHERE WHAT IT READS IS OF BULK AT MOST 1048576: true; the input reads as it did. -/
def fnTokenAddressUptoRow : OpenClaim := { program := "ytbmlckhjjfipbaadoor", sum := "317b970228ddaa15bb8ab4d83019ae3ee8e8f46b13638fa2e246966720220758", func := "loop.example/multipathtransport/laws.FnTokenAddress", spec := "fnTokenAddress", inPlace := ["internal/reflectlite.TypeOf"], unfollowed := true, recurses := true, named := ["loop.example/multipathtransport/impl.errRejected"], ifaces := true, apart := false, laid := [("loop.example/multipathtransport/impl.errRejected", laid_loop_example_multipathtransport_impl_errRejected)], narrowed := true }
def FnTokenAddressUptoSaid : Prop := fnTokenAddressUptoRow.holds Tryd.pinned (OpenSpec.upto fnTokenAddressSpec)

/-- 'laws.FnTokenTag', WHERE WHAT IT READS IS OF BULK AT MOST 1048576: true; the input reads as it did. -/
def fnTokenTagUptoRow : OpenClaim := { program := "ytbmlckhjjfipbaadoor", sum := "317b970228ddaa15bb8ab4d83019ae3ee8e8f46b13638fa2e246966720220758", func := "loop.example/multipathtransport/laws.FnTokenTag", spec := "fnTokenTag", inPlace := ["internal/reflectlite.TypeOf"], unfollowed := true, recurses := true, named := ["loop.example/multipathtransport/impl.errRejected"], ifaces := true, apart := false, laid := [("loop.example/multipathtransport/impl.errRejected", laid_loop_example_multipathtransport_impl_errRejected)], narrowed := true }
def FnTokenTagUptoSaid : Prop := fnTokenTagUptoRow.holds Tryd.pinned (OpenSpec.upto fnTokenTagSpec)

/-- 'laws.FnTokenGenuine', WHERE WHAT IT READS IS OF BULK AT MOST 1048576: true; the input reads as it did. -/
def fnTokenGenuineUptoRow : OpenClaim := { program := "ytbmlckhjjfipbaadoor", sum := "317b970228ddaa15bb8ab4d83019ae3ee8e8f46b13638fa2e246966720220758", func := "loop.example/multipathtransport/laws.FnTokenGenuine", spec := "fnTokenGenuine", inPlace := ["internal/reflectlite.TypeOf"], unfollowed := true, recurses := true, named := ["loop.example/multipathtransport/impl.errRejected"], ifaces := true, apart := false, laid := [("loop.example/multipathtransport/impl.errRejected", laid_loop_example_multipathtransport_impl_errRejected)], narrowed := true }
def FnTokenGenuineUptoSaid : Prop := fnTokenGenuineUptoRow.holds Tryd.pinned (OpenSpec.upto fnTokenGenuineSpec)

/-- 'laws.FnExactTokenAccept', WHERE WHAT IT READS IS OF BULK AT MOST 1048576: true; the input reads as it did. -/
def fnExactTokenAcceptUptoRow : OpenClaim := { program := "ytbmlckhjjfipbaadoor", sum := "317b970228ddaa15bb8ab4d83019ae3ee8e8f46b13638fa2e246966720220758", func := "loop.example/multipathtransport/laws.FnExactTokenAccept", spec := "fnExactTokenAccept", inPlace := ["internal/reflectlite.TypeOf"], unfollowed := true, recurses := true, named := ["loop.example/multipathtransport/impl.errRejected"], ifaces := true, apart := false, laid := [("loop.example/multipathtransport/impl.errRejected", laid_loop_example_multipathtransport_impl_errRejected)], narrowed := true }
def FnExactTokenAcceptUptoSaid : Prop := fnExactTokenAcceptUptoRow.holds Tryd.pinned (OpenSpec.upto fnExactTokenAcceptSpec)

end Rows
end Go.Proofs.YtbmlckhjjfipbaaDoor
