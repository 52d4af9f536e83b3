/-
  No cell of these rows narrows 'for every input' (looked for: loops, veiled, ifaces, maps, wideKeys, modest, calm, conditions, laid).
  DERIVED. THE GIVEN ROWS OF THIS SEAT. 6 by the template 'for every input the law returns true; each argument reads behind the call as it read before'; 0 by the template 'total and deterministic' (their statements: YthflokonihegbabTotals.lean).
  GIVEN WITH THE SEED: the statements are not yours to turn. If you find one false, say at which input.
  Laid BY PROGRAM, IN A SANDBOX (cutbox-rows.mjs): the forced cells as the released guide's own fill.sh prints them over the translation 432f56d6c188a9d2… (all of the seat's roots in one cut). By AI agents, Wed Nov 11 2026. No macro, syntax, notation, axiom, sorry.
-/
import Derived.Test.YthflokonihegbabChecked
import GoSem.Claim
import GoSem.ClaimJoined
import GoSem.ClaimMapViews
import Derived.JoinedTies
import Derived.KernelRfl
namespace Go.Proofs.Ythflokonihegbab
/- THE CELL 'sum', in the pinned program and in every row, IS THE sha256 OF THE DUMP (.gsa) THAT YthflokonihegbabProg.lean LOADS. Nothing in Lean hashes anything: it is a label: what it is worth is what the hold of that sum in a sandbox is worth. -/
noncomputable def Try.pinned : Pinned := { name := "ythflokonihegbab", sum := "432f56d6c188a9d221d7c0c0903a73d4da8247c680762a4b73180874d910827f", checked := Try.checked }
namespace Rows
def none {H : Type} : Left H := { results := [], args := [] }

/-- 'laws.FnExactFrameValid': WHATEVER THE INPUT: true; the input reads as it did. -/
def fnExactFrameValidSpec : ChangeSpec := { name := "fnExactFrameValid", fn := fun _ => fun
  | [d] => { results := [.lit (.bool true)], args := [d] }
  | _ => none }
def fnExactFrameValidRow : OpenClaim := { program := "ythflokonihegbab", sum := "432f56d6c188a9d221d7c0c0903a73d4da8247c680762a4b73180874d910827f", func := "loop.example/multipathtransport/laws.FnExactFrameValid", spec := "fnExactFrameValid", unfollowed := true, recurses := true, apart := false }
def FnExactFrameValidSaid : Prop := fnExactFrameValidRow.holds Try.pinned (OpenSpec.ofChange fnExactFrameValidSpec)

/-- ITS FALSE NEIGHBOUR: 'it returns false'. Refute it at one input. -/
def fnExactFrameValidWrong : ChangeSpec := { name := "fnExactFrameValid", fn := fun _ => fun
  | [d] => { results := [.lit (.bool false)], args := [d] }
  | _ => none }
def FnExactFrameValidWrongFalsely : Prop := fnExactFrameValidRow.holds Try.pinned (OpenSpec.ofChange fnExactFrameValidWrong)

/-- 'laws.FnExactFrameEncode': WHATEVER THE INPUT: true; the input reads as it did. -/
def fnExactFrameEncodeSpec : ChangeSpec := { name := "fnExactFrameEncode", fn := fun _ => fun
  | [d] => { results := [.lit (.bool true)], args := [d] }
  | _ => none }
def fnExactFrameEncodeRow : OpenClaim := { program := "ythflokonihegbab", sum := "432f56d6c188a9d221d7c0c0903a73d4da8247c680762a4b73180874d910827f", func := "loop.example/multipathtransport/laws.FnExactFrameEncode", spec := "fnExactFrameEncode", inPlace := ["internal/abi.NoEscape"], unfollowed := true, recurses := true, apart := false }
def FnExactFrameEncodeSaid : Prop := fnExactFrameEncodeRow.holds Try.pinned (OpenSpec.ofChange fnExactFrameEncodeSpec)

/-- ITS FALSE NEIGHBOUR: 'it returns false'. Refute it at one input. -/
def fnExactFrameEncodeWrong : ChangeSpec := { name := "fnExactFrameEncode", fn := fun _ => fun
  | [d] => { results := [.lit (.bool false)], args := [d] }
  | _ => none }
def FnExactFrameEncodeWrongFalsely : Prop := fnExactFrameEncodeRow.holds Try.pinned (OpenSpec.ofChange fnExactFrameEncodeWrong)

/-- 'laws.FnExactFrameDecode': WHATEVER THE INPUT: true; the input reads as it did. -/
def fnExactFrameDecodeSpec : ChangeSpec := { name := "fnExactFrameDecode", fn := fun _ => fun
  | [d] => { results := [.lit (.bool true)], args := [d] }
  | _ => none }
def fnExactFrameDecodeRow : OpenClaim := { program := "ythflokonihegbab", sum := "432f56d6c188a9d221d7c0c0903a73d4da8247c680762a4b73180874d910827f", func := "loop.example/multipathtransport/laws.FnExactFrameDecode", spec := "fnExactFrameDecode", unfollowed := true, recurses := true, apart := false }
def FnExactFrameDecodeSaid : Prop := fnExactFrameDecodeRow.holds Try.pinned (OpenSpec.ofChange fnExactFrameDecodeSpec)

/-- ITS FALSE NEIGHBOUR: 'it returns false'. Refute it at one input. -/
def fnExactFrameDecodeWrong : ChangeSpec := { name := "fnExactFrameDecode", fn := fun _ => fun
  | [d] => { results := [.lit (.bool false)], args := [d] }
  | _ => none }
def FnExactFrameDecodeWrongFalsely : Prop := fnExactFrameDecodeRow.holds Try.pinned (OpenSpec.ofChange fnExactFrameDecodeWrong)

/-- 'laws.FnExactFramesEncode': WHATEVER THE INPUT: true; the input reads as it did. -/
def fnExactFramesEncodeSpec : ChangeSpec := { name := "fnExactFramesEncode", fn := fun _ => fun
  | [d] => { results := [.lit (.bool true)], args := [d] }
  | _ => none }
def fnExactFramesEncodeRow : OpenClaim := { program := "ythflokonihegbab", sum := "432f56d6c188a9d221d7c0c0903a73d4da8247c680762a4b73180874d910827f", func := "loop.example/multipathtransport/laws.FnExactFramesEncode", spec := "fnExactFramesEncode", inPlace := ["internal/abi.NoEscape"], unfollowed := true, recurses := true, apart := false }
def FnExactFramesEncodeSaid : Prop := fnExactFramesEncodeRow.holds Try.pinned (OpenSpec.ofChange fnExactFramesEncodeSpec)

/-- ITS FALSE NEIGHBOUR: 'it returns false'. Refute it at one input. -/
def fnExactFramesEncodeWrong : ChangeSpec := { name := "fnExactFramesEncode", fn := fun _ => fun
  | [d] => { results := [.lit (.bool false)], args := [d] }
  | _ => none }
def FnExactFramesEncodeWrongFalsely : Prop := fnExactFramesEncodeRow.holds Try.pinned (OpenSpec.ofChange fnExactFramesEncodeWrong)

/-- 'laws.FnExactFramesDecode': WHATEVER THE INPUT: true; the input reads as it did. -/
def fnExactFramesDecodeSpec : ChangeSpec := { name := "fnExactFramesDecode", fn := fun _ => fun
  | [d] => { results := [.lit (.bool true)], args := [d] }
  | _ => none }
def fnExactFramesDecodeRow : OpenClaim := { program := "ythflokonihegbab", sum := "432f56d6c188a9d221d7c0c0903a73d4da8247c680762a4b73180874d910827f", func := "loop.example/multipathtransport/laws.FnExactFramesDecode", spec := "fnExactFramesDecode", unfollowed := true, recurses := true, apart := false }
def FnExactFramesDecodeSaid : Prop := fnExactFramesDecodeRow.holds Try.pinned (OpenSpec.ofChange fnExactFramesDecodeSpec)

/-- ITS FALSE NEIGHBOUR: 'it returns false'. Refute it at one input. -/
def fnExactFramesDecodeWrong : ChangeSpec := { name := "fnExactFramesDecode", fn := fun _ => fun
  | [d] => { results := [.lit (.bool false)], args := [d] }
  | _ => none }
def FnExactFramesDecodeWrongFalsely : Prop := fnExactFramesDecodeRow.holds Try.pinned (OpenSpec.ofChange fnExactFramesDecodeWrong)

/-- 'laws.FnExactFrameEliciting': WHATEVER THE INPUT: true; the input reads as it did. -/
def fnExactFrameElicitingSpec : ChangeSpec := { name := "fnExactFrameEliciting", fn := fun _ => fun
  | [d] => { results := [.lit (.bool true)], args := [d] }
  | _ => none }
def fnExactFrameElicitingRow : OpenClaim := { program := "ythflokonihegbab", sum := "432f56d6c188a9d221d7c0c0903a73d4da8247c680762a4b73180874d910827f", func := "loop.example/multipathtransport/laws.FnExactFrameEliciting", spec := "fnExactFrameEliciting", unfollowed := true, recurses := true, apart := false }
def FnExactFrameElicitingSaid : Prop := fnExactFrameElicitingRow.holds Try.pinned (OpenSpec.ofChange fnExactFrameElicitingSpec)

/-- ITS FALSE NEIGHBOUR: 'it returns false'. Refute it at one input. -/
def fnExactFrameElicitingWrong : ChangeSpec := { name := "fnExactFrameEliciting", fn := fun _ => fun
  | [d] => { results := [.lit (.bool false)], args := [d] }
  | _ => none }
def FnExactFrameElicitingWrongFalsely : Prop := fnExactFrameElicitingRow.holds Try.pinned (OpenSpec.ofChange fnExactFrameElicitingWrong)

/- THE SECOND FORM. 'bulk': how many values and letters a reading holds, each counted each time it is reached (what is shared counts as often as it is met; a slice's spare places count too). A statement '..UptoSaid' is the law's where the arguments, and the package variables that the reading takes, are together of bulk at most 1048576: NARROWER than '..Said'. Prove '..Said' where nothing that the law and all that it calls make is longer than what came in: it says more and counts as full. Else prove '..UptoSaid'. A law counts once. -/
mutual
def uptoBulk {H : Type} : DataW H → Nat
  | .lit (.string bytes) => bytes.length + 1
  | .lit _ => 1
  | .nil => 1
  | .ptr d => uptoBulk d + 1
  | .slice elems spare => uptoBulkAll elems + uptoBulkAll spare + 1
  | .agg parts => uptoBulkAll parts + 1
  | .iface _ d => uptoBulk d + 1
  | .map entries => uptoBulkEntries entries + 1
  | .held _ => 1
def uptoBulkAll {H : Type} : List (DataW H) → Nat
  | [] => 0
  | d :: r => uptoBulk d + uptoBulkAll r
def uptoBulkEntries {H : Type} : List (Lit × DataW H) → Nat
  | [] => 0
  | x :: r => uptoBulkEntry x + uptoBulkEntries r
def uptoBulkEntry {H : Type} : Lit × DataW H → Nat
  | (.string bytes, d) => bytes.length + uptoBulk d + 1
  | (_, d) => uptoBulk d + 1
 end
def uptoSmall : (H : Type) → List (DataW H) → Bool := fun _ ds => decide (uptoBulkAll ds ≤ 1048576)
def OpenSpec.upto (s : _root_.Go.ChangeSpec) : _root_.Go.OpenSpec := { _root_.Go.OpenSpec.ofChange s with cond := some uptoSmall }

/-- 'laws.FnExactFrameValid', WHERE WHAT IT READS IS OF BULK AT MOST 1048576: true; the input reads as it did. -/
def fnExactFrameValidUptoRow : OpenClaim := { program := "ythflokonihegbab", sum := "432f56d6c188a9d221d7c0c0903a73d4da8247c680762a4b73180874d910827f", func := "loop.example/multipathtransport/laws.FnExactFrameValid", spec := "fnExactFrameValid", unfollowed := true, recurses := true, apart := false, narrowed := true }
def FnExactFrameValidUptoSaid : Prop := fnExactFrameValidUptoRow.holds Try.pinned (OpenSpec.upto fnExactFrameValidSpec)

/-- 'laws.FnExactFrameEncode', WHERE WHAT IT READS IS OF BULK AT MOST 1048576: true; the input reads as it did. -/
def fnExactFrameEncodeUptoRow : OpenClaim := { program := "ythflokonihegbab", sum := "432f56d6c188a9d221d7c0c0903a73d4da8247c680762a4b73180874d910827f", func := "loop.example/multipathtransport/laws.FnExactFrameEncode", spec := "fnExactFrameEncode", inPlace := ["internal/abi.NoEscape"], unfollowed := true, recurses := true, apart := false, narrowed := true }
def FnExactFrameEncodeUptoSaid : Prop := fnExactFrameEncodeUptoRow.holds Try.pinned (OpenSpec.upto fnExactFrameEncodeSpec)

/-- 'laws.FnExactFrameDecode', WHERE WHAT IT READS IS OF BULK AT MOST 1048576: true; the input reads as it did. -/
def fnExactFrameDecodeUptoRow : OpenClaim := { program := "ythflokonihegbab", sum := "432f56d6c188a9d221d7c0c0903a73d4da8247c680762a4b73180874d910827f", func := "loop.example/multipathtransport/laws.FnExactFrameDecode", spec := "fnExactFrameDecode", unfollowed := true, recurses := true, apart := false, narrowed := true }
def FnExactFrameDecodeUptoSaid : Prop := fnExactFrameDecodeUptoRow.holds Try.pinned (OpenSpec.upto fnExactFrameDecodeSpec)

/-- 'laws.FnExactFramesEncode', WHERE WHAT IT READS IS OF BULK AT MOST 1048576: true; the input reads as it did. -/
def fnExactFramesEncodeUptoRow : OpenClaim := { program := "ythflokonihegbab", sum := "432f56d6c188a9d221d7c0c0903a73d4da8247c680762a4b73180874d910827f", func := "loop.example/multipathtransport/laws.FnExactFramesEncode", spec := "fnExactFramesEncode", inPlace := ["internal/abi.NoEscape"], unfollowed := true, recurses := true, apart := false, narrowed := true }
def FnExactFramesEncodeUptoSaid : Prop := fnExactFramesEncodeUptoRow.holds Try.pinned (OpenSpec.upto fnExactFramesEncodeSpec)

/-- 'laws.FnExactFramesDecode', WHERE WHAT IT READS IS OF BULK AT MOST 1048576: true; the input reads as it did. -/
def fnExactFramesDecodeUptoRow : OpenClaim := { program := "ythflokonihegbab", sum := "432f56d6c188a9d221d7c0c0903a73d4da8247c680762a4b73180874d910827f", func := "loop.example/multipathtransport/laws.FnExactFramesDecode", spec := "fnExactFramesDecode", unfollowed := true, recurses := true, apart := false, narrowed := true }
def FnExactFramesDecodeUptoSaid : Prop := fnExactFramesDecodeUptoRow.holds Try.pinned (OpenSpec.upto fnExactFramesDecodeSpec)

/-- 'laws.FnExactFrameEliciting', WHERE WHAT IT READS IS OF BULK AT MOST 1048576: true; the input reads as it did. -/
def fnExactFrameElicitingUptoRow : OpenClaim := { program := "ythflokonihegbab", sum := "432f56d6c188a9d221d7c0c0903a73d4da8247c680762a4b73180874d910827f", func := "loop.example/multipathtransport/laws.FnExactFrameEliciting", spec := "fnExactFrameEliciting", unfollowed := true, recurses := true, apart := false, narrowed := true }
def FnExactFrameElicitingUptoSaid : Prop := fnExactFrameElicitingUptoRow.holds Try.pinned (OpenSpec.upto fnExactFrameElicitingSpec)

end Rows
end Go.Proofs.Ythflokonihegbab
