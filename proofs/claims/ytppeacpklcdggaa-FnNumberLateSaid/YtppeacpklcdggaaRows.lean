/-
  No cell of these rows narrows 'for every input' (looked for: loops, veiled, ifaces, maps, wideKeys, modest, calm, conditions, laid).
  DERIVED. THE GIVEN ROWS OF THIS SEAT. 11 by the template 'for every input the law returns true; each argument reads behind the call as it read before'; 0 by the template 'total and deterministic' (their statements: YtppeacpklcdggaaTotals.lean).
  GIVEN WITH THE SEED: the statements are not yours to turn. If you find one false, say at which input.
  Laid BY PROGRAM, IN A SANDBOX (cutbox-rows.mjs): the forced cells as the released guide's own fill.sh prints them over the translation 84d681d89206902c… (all of the seat's roots in one cut). By AI agents, Wed Nov 11 2026. No macro, syntax, notation, axiom, sorry.
-/
import Derived.Test.YtppeacpklcdggaaChecked
import GoSem.Claim
import GoSem.ClaimJoined
import GoSem.ClaimMapViews
import Derived.JoinedTies
import Derived.KernelRfl
namespace Go.Proofs.Ytppeacpklcdggaa
/- THE CELL 'sum', in the pinned program and in every row, IS THE sha256 OF THE DUMP (.gsa) THAT YtppeacpklcdggaaProg.lean LOADS. Nothing in Lean hashes anything: it is a label: what it is worth is what the hold of that sum in a sandbox is worth. -/
noncomputable def Try.pinned : Pinned := { name := "ytppeacpklcdggaa", sum := "84d681d89206902cc231b9ea4a869a955c567f3838ee71b78125938e002f1206", checked := Try.checked }
namespace Rows
def none {H : Type} : Left H := { results := [], args := [] }

/-- 'laws.FnNumberRoundTrip': WHATEVER THE INPUT: true; the input reads as it did. -/
def fnNumberRoundTripSpec : ChangeSpec := { name := "fnNumberRoundTrip", fn := fun _ => fun
  | [d1, d2] => { results := [.lit (.bool true)], args := [d1, d2] }
  | _ => none }
def fnNumberRoundTripRow : OpenClaim := { program := "ytppeacpklcdggaa", sum := "84d681d89206902cc231b9ea4a869a955c567f3838ee71b78125938e002f1206", func := "loop.example/multipathtransport/laws.FnNumberRoundTrip", spec := "fnNumberRoundTrip", unfollowed := true, recurses := true, apart := false }
def FnNumberRoundTripSaid : Prop := fnNumberRoundTripRow.holds Try.pinned (OpenSpec.ofChange fnNumberRoundTripSpec)

/-- ITS FALSE NEIGHBOUR: 'it returns false'. Refute it at one input. -/
def fnNumberRoundTripWrong : ChangeSpec := { name := "fnNumberRoundTrip", fn := fun _ => fun
  | [d1, d2] => { results := [.lit (.bool false)], args := [d1, d2] }
  | _ => none }
def FnNumberRoundTripWrongFalsely : Prop := fnNumberRoundTripRow.holds Try.pinned (OpenSpec.ofChange fnNumberRoundTripWrong)

/-- 'laws.FnNumberLate': WHATEVER THE INPUT: true; the input reads as it did. -/
def fnNumberLateSpec : ChangeSpec := { name := "fnNumberLate", fn := fun _ => fun
  | [d1, d2] => { results := [.lit (.bool true)], args := [d1, d2] }
  | _ => none }
def fnNumberLateRow : OpenClaim := { program := "ytppeacpklcdggaa", sum := "84d681d89206902cc231b9ea4a869a955c567f3838ee71b78125938e002f1206", func := "loop.example/multipathtransport/laws.FnNumberLate", spec := "fnNumberLate", unfollowed := true, recurses := true, apart := false }
def FnNumberLateSaid : Prop := fnNumberLateRow.holds Try.pinned (OpenSpec.ofChange fnNumberLateSpec)

/-- ITS FALSE NEIGHBOUR: 'it returns false'. Refute it at one input. -/
def fnNumberLateWrong : ChangeSpec := { name := "fnNumberLate", fn := fun _ => fun
  | [d1, d2] => { results := [.lit (.bool false)], args := [d1, d2] }
  | _ => none }
def FnNumberLateWrongFalsely : Prop := fnNumberLateRow.holds Try.pinned (OpenSpec.ofChange fnNumberLateWrong)

/-- 'laws.FnNumberBitsLeast': WHATEVER THE INPUT: true; the input reads as it did. -/
def fnNumberBitsLeastSpec : ChangeSpec := { name := "fnNumberBitsLeast", fn := fun _ => fun
  | [d] => { results := [.lit (.bool true)], args := [d] }
  | _ => none }
def fnNumberBitsLeastRow : OpenClaim := { program := "ytppeacpklcdggaa", sum := "84d681d89206902cc231b9ea4a869a955c567f3838ee71b78125938e002f1206", func := "loop.example/multipathtransport/laws.FnNumberBitsLeast", spec := "fnNumberBitsLeast", apart := false }
def FnNumberBitsLeastSaid : Prop := fnNumberBitsLeastRow.holds Try.pinned (OpenSpec.ofChange fnNumberBitsLeastSpec)

/-- ITS FALSE NEIGHBOUR: 'it returns false'. Refute it at one input. -/
def fnNumberBitsLeastWrong : ChangeSpec := { name := "fnNumberBitsLeast", fn := fun _ => fun
  | [d] => { results := [.lit (.bool false)], args := [d] }
  | _ => none }
def FnNumberBitsLeastWrongFalsely : Prop := fnNumberBitsLeastRow.holds Try.pinned (OpenSpec.ofChange fnNumberBitsLeastWrong)

/-- 'laws.FnNumberBitsOrder': WHATEVER THE INPUT: true; the input reads as it did. -/
def fnNumberBitsOrderSpec : ChangeSpec := { name := "fnNumberBitsOrder", fn := fun _ => fun
  | [d] => { results := [.lit (.bool true)], args := [d] }
  | _ => none }
def fnNumberBitsOrderRow : OpenClaim := { program := "ytppeacpklcdggaa", sum := "84d681d89206902cc231b9ea4a869a955c567f3838ee71b78125938e002f1206", func := "loop.example/multipathtransport/laws.FnNumberBitsOrder", spec := "fnNumberBitsOrder", apart := false }
def FnNumberBitsOrderSaid : Prop := fnNumberBitsOrderRow.holds Try.pinned (OpenSpec.ofChange fnNumberBitsOrderSpec)

/-- ITS FALSE NEIGHBOUR: 'it returns false'. Refute it at one input. -/
def fnNumberBitsOrderWrong : ChangeSpec := { name := "fnNumberBitsOrder", fn := fun _ => fun
  | [d] => { results := [.lit (.bool false)], args := [d] }
  | _ => none }
def FnNumberBitsOrderWrongFalsely : Prop := fnNumberBitsOrderRow.holds Try.pinned (OpenSpec.ofChange fnNumberBitsOrderWrong)

/-- 'laws.FnNumberTruncate': WHATEVER THE INPUT: true; the input reads as it did. -/
def fnNumberTruncateSpec : ChangeSpec := { name := "fnNumberTruncate", fn := fun _ => fun
  | [d] => { results := [.lit (.bool true)], args := [d] }
  | _ => none }
def fnNumberTruncateRow : OpenClaim := { program := "ytppeacpklcdggaa", sum := "84d681d89206902cc231b9ea4a869a955c567f3838ee71b78125938e002f1206", func := "loop.example/multipathtransport/laws.FnNumberTruncate", spec := "fnNumberTruncate", apart := false }
def FnNumberTruncateSaid : Prop := fnNumberTruncateRow.holds Try.pinned (OpenSpec.ofChange fnNumberTruncateSpec)

/-- ITS FALSE NEIGHBOUR: 'it returns false'. Refute it at one input. -/
def fnNumberTruncateWrong : ChangeSpec := { name := "fnNumberTruncate", fn := fun _ => fun
  | [d] => { results := [.lit (.bool false)], args := [d] }
  | _ => none }
def FnNumberTruncateWrongFalsely : Prop := fnNumberTruncateRow.holds Try.pinned (OpenSpec.ofChange fnNumberTruncateWrong)

/-- 'laws.FnNumberExpand': WHATEVER THE INPUT: true; the input reads as it did. -/
def fnNumberExpandSpec : ChangeSpec := { name := "fnNumberExpand", fn := fun _ => fun
  | [d] => { results := [.lit (.bool true)], args := [d] }
  | _ => none }
def fnNumberExpandRow : OpenClaim := { program := "ytppeacpklcdggaa", sum := "84d681d89206902cc231b9ea4a869a955c567f3838ee71b78125938e002f1206", func := "loop.example/multipathtransport/laws.FnNumberExpand", spec := "fnNumberExpand", unfollowed := true, recurses := true, apart := false }
def FnNumberExpandSaid : Prop := fnNumberExpandRow.holds Try.pinned (OpenSpec.ofChange fnNumberExpandSpec)

/-- ITS FALSE NEIGHBOUR: 'it returns false'. Refute it at one input. -/
def fnNumberExpandWrong : ChangeSpec := { name := "fnNumberExpand", fn := fun _ => fun
  | [d] => { results := [.lit (.bool false)], args := [d] }
  | _ => none }
def FnNumberExpandWrongFalsely : Prop := fnNumberExpandRow.holds Try.pinned (OpenSpec.ofChange fnNumberExpandWrong)

/-- 'laws.FnNumberShift': WHATEVER THE INPUT: true; the input reads as it did. -/
def fnNumberShiftSpec : ChangeSpec := { name := "fnNumberShift", fn := fun _ => fun
  | [d] => { results := [.lit (.bool true)], args := [d] }
  | _ => none }
def fnNumberShiftRow : OpenClaim := { program := "ytppeacpklcdggaa", sum := "84d681d89206902cc231b9ea4a869a955c567f3838ee71b78125938e002f1206", func := "loop.example/multipathtransport/laws.FnNumberShift", spec := "fnNumberShift", unfollowed := true, recurses := true, apart := false }
def FnNumberShiftSaid : Prop := fnNumberShiftRow.holds Try.pinned (OpenSpec.ofChange fnNumberShiftSpec)

/-- ITS FALSE NEIGHBOUR: 'it returns false'. Refute it at one input. -/
def fnNumberShiftWrong : ChangeSpec := { name := "fnNumberShift", fn := fun _ => fun
  | [d] => { results := [.lit (.bool false)], args := [d] }
  | _ => none }
def FnNumberShiftWrongFalsely : Prop := fnNumberShiftRow.holds Try.pinned (OpenSpec.ofChange fnNumberShiftWrong)

/-- 'laws.FnNumberLonger': WHATEVER THE INPUT: true; the input reads as it did. -/
def fnNumberLongerSpec : ChangeSpec := { name := "fnNumberLonger", fn := fun _ => fun
  | [d] => { results := [.lit (.bool true)], args := [d] }
  | _ => none }
def fnNumberLongerRow : OpenClaim := { program := "ytppeacpklcdggaa", sum := "84d681d89206902cc231b9ea4a869a955c567f3838ee71b78125938e002f1206", func := "loop.example/multipathtransport/laws.FnNumberLonger", spec := "fnNumberLonger", unfollowed := true, recurses := true, apart := false }
def FnNumberLongerSaid : Prop := fnNumberLongerRow.holds Try.pinned (OpenSpec.ofChange fnNumberLongerSpec)

/-- ITS FALSE NEIGHBOUR: 'it returns false'. Refute it at one input. -/
def fnNumberLongerWrong : ChangeSpec := { name := "fnNumberLonger", fn := fun _ => fun
  | [d] => { results := [.lit (.bool false)], args := [d] }
  | _ => none }
def FnNumberLongerWrongFalsely : Prop := fnNumberLongerRow.holds Try.pinned (OpenSpec.ofChange fnNumberLongerWrong)

/-- 'laws.FnExactNumberBits': WHATEVER THE INPUT: true; the input reads as it did. -/
def fnExactNumberBitsSpec : ChangeSpec := { name := "fnExactNumberBits", fn := fun _ => fun
  | [d1, d2] => { results := [.lit (.bool true)], args := [d1, d2] }
  | _ => none }
def fnExactNumberBitsRow : OpenClaim := { program := "ytppeacpklcdggaa", sum := "84d681d89206902cc231b9ea4a869a955c567f3838ee71b78125938e002f1206", func := "loop.example/multipathtransport/laws.FnExactNumberBits", spec := "fnExactNumberBits", apart := false }
def FnExactNumberBitsSaid : Prop := fnExactNumberBitsRow.holds Try.pinned (OpenSpec.ofChange fnExactNumberBitsSpec)

/-- ITS FALSE NEIGHBOUR: 'it returns false'. Refute it at one input. -/
def fnExactNumberBitsWrong : ChangeSpec := { name := "fnExactNumberBits", fn := fun _ => fun
  | [d1, d2] => { results := [.lit (.bool false)], args := [d1, d2] }
  | _ => none }
def FnExactNumberBitsWrongFalsely : Prop := fnExactNumberBitsRow.holds Try.pinned (OpenSpec.ofChange fnExactNumberBitsWrong)

/-- 'laws.FnExactNumberTruncate': WHATEVER THE INPUT: true; the input reads as it did. -/
def fnExactNumberTruncateSpec : ChangeSpec := { name := "fnExactNumberTruncate", fn := fun _ => fun
  | [d1, d2] => { results := [.lit (.bool true)], args := [d1, d2] }
  | _ => none }
def fnExactNumberTruncateRow : OpenClaim := { program := "ytppeacpklcdggaa", sum := "84d681d89206902cc231b9ea4a869a955c567f3838ee71b78125938e002f1206", func := "loop.example/multipathtransport/laws.FnExactNumberTruncate", spec := "fnExactNumberTruncate", apart := false }
def FnExactNumberTruncateSaid : Prop := fnExactNumberTruncateRow.holds Try.pinned (OpenSpec.ofChange fnExactNumberTruncateSpec)

/-- ITS FALSE NEIGHBOUR: 'it returns false'. Refute it at one input. -/
def fnExactNumberTruncateWrong : ChangeSpec := { name := "fnExactNumberTruncate", fn := fun _ => fun
  | [d1, d2] => { results := [.lit (.bool false)], args := [d1, d2] }
  | _ => none }
def FnExactNumberTruncateWrongFalsely : Prop := fnExactNumberTruncateRow.holds Try.pinned (OpenSpec.ofChange fnExactNumberTruncateWrong)

/-- 'laws.FnExactNumberExpand': WHATEVER THE INPUT: true; the input reads as it did. -/
def fnExactNumberExpandSpec : ChangeSpec := { name := "fnExactNumberExpand", fn := fun _ => fun
  | [d1, d2, d3] => { results := [.lit (.bool true)], args := [d1, d2, d3] }
  | _ => none }
def fnExactNumberExpandRow : OpenClaim := { program := "ytppeacpklcdggaa", sum := "84d681d89206902cc231b9ea4a869a955c567f3838ee71b78125938e002f1206", func := "loop.example/multipathtransport/laws.FnExactNumberExpand", spec := "fnExactNumberExpand", unfollowed := true, recurses := true, apart := false }
def FnExactNumberExpandSaid : Prop := fnExactNumberExpandRow.holds Try.pinned (OpenSpec.ofChange fnExactNumberExpandSpec)

/-- ITS FALSE NEIGHBOUR: 'it returns false'. Refute it at one input. -/
def fnExactNumberExpandWrong : ChangeSpec := { name := "fnExactNumberExpand", fn := fun _ => fun
  | [d1, d2, d3] => { results := [.lit (.bool false)], args := [d1, d2, d3] }
  | _ => none }
def FnExactNumberExpandWrongFalsely : Prop := fnExactNumberExpandRow.holds Try.pinned (OpenSpec.ofChange fnExactNumberExpandWrong)

/- THE SECOND FORM. 'bulk': how many values and letters a reading holds, each counted each time it is reached (what is shared counts as often as it is met; a slice's spare places count too). A statement '..UptoSaid' is the law's where the arguments, and the package variables that the reading takes, are together of bulk at most 1048576: NARROWER than '..Said'. Prove '..Said' where nothing that the law and all that it calls make is longer than what came in: it says more and counts as full. Else prove '..UptoSaid'. A law counts once. -/
mutual
def uptoBulk {H : Type} : DataW H → Nat
  | .lit (.string bytes) => bytes.length + 1
  | .lit _ => 1
  | .nil => 1
  | .ptr d => uptoBulk d + 1
  | .slice elems spare => uptoBulkAll elems + uptoBulkAll spare + 1
  | .agg parts => uptoBulkAll parts + 1
  | .iface _ d => uptoBulk d + 1
  | .map entries => uptoBulkEntries entries + 1
  | .held _ => 1
def uptoBulkAll {H : Type} : List (DataW H) → Nat
  | [] => 0
  | d :: r => uptoBulk d + uptoBulkAll r
def uptoBulkEntries {H : Type} : List (Lit × DataW H) → Nat
  | [] => 0
  | x :: r => uptoBulkEntry x + uptoBulkEntries r
def uptoBulkEntry {H : Type} : Lit × DataW H → Nat
  | (.string bytes, d) => bytes.length + uptoBulk d + 1
  | (_, d) => uptoBulk d + 1
 end
def uptoSmall : (H : Type) → List (DataW H) → Bool := fun _ ds => decide (uptoBulkAll ds ≤ 1048576)
def OpenSpec.upto (s : _root_.Go.ChangeSpec) : _root_.Go.OpenSpec := { _root_.Go.OpenSpec.ofChange s with cond := some uptoSmall }

/-- 'laws.FnNumberRoundTrip', WHERE WHAT IT READS IS OF BULK AT MOST 1048576: true; the input reads as it did. -/
def fnNumberRoundTripUptoRow : OpenClaim := { program := "ytppeacpklcdggaa", sum := "84d681d89206902cc231b9ea4a869a955c567f3838ee71b78125938e002f1206", func := "loop.example/multipathtransport/laws.FnNumberRoundTrip", spec := "fnNumberRoundTrip", unfollowed := true, recurses := true, apart := false, narrowed := true }
def FnNumberRoundTripUptoSaid : Prop := fnNumberRoundTripUptoRow.holds Try.pinned (OpenSpec.upto fnNumberRoundTripSpec)

/-- 'laws.FnNumberLate', WHERE WHAT IT READS IS OF BULK AT MOST 1048576: true; the input reads as it did. -/
def fnNumberLateUptoRow : OpenClaim := { program := "ytppeacpklcdggaa", sum := "84d681d89206902cc231b9ea4a869a955c567f3838ee71b78125938e002f1206", func := "loop.example/multipathtransport/laws.FnNumberLate", spec := "fnNumberLate", unfollowed := true, recurses := true, apart := false, narrowed := true }
def FnNumberLateUptoSaid : Prop := fnNumberLateUptoRow.holds Try.pinned (OpenSpec.upto fnNumberLateSpec)

/-- 'laws.FnNumberBitsLeast', WHERE WHAT IT READS IS OF BULK AT MOST 1048576: true; the input reads as it did. -/
def fnNumberBitsLeastUptoRow : OpenClaim := { program := "ytppeacpklcdggaa", sum := "84d681d89206902cc231b9ea4a869a955c567f3838ee71b78125938e002f1206", func := "loop.example/multipathtransport/laws.FnNumberBitsLeast", spec := "fnNumberBitsLeast", apart := false, narrowed := true }
def FnNumberBitsLeastUptoSaid : Prop := fnNumberBitsLeastUptoRow.holds Try.pinned (OpenSpec.upto fnNumberBitsLeastSpec)

/-- 'laws.FnNumberBitsOrder', WHERE WHAT IT READS IS OF BULK AT MOST 1048576: true; the input reads as it did. -/
def fnNumberBitsOrderUptoRow : OpenClaim := { program := "ytppeacpklcdggaa", sum := "84d681d89206902cc231b9ea4a869a955c567f3838ee71b78125938e002f1206", func := "loop.example/multipathtransport/laws.FnNumberBitsOrder", spec := "fnNumberBitsOrder", apart := false, narrowed := true }
def FnNumberBitsOrderUptoSaid : Prop := fnNumberBitsOrderUptoRow.holds Try.pinned (OpenSpec.upto fnNumberBitsOrderSpec)

/-- 'laws.FnNumberTruncate', WHERE WHAT IT READS IS OF BULK AT MOST 1048576: true; the input reads as it did. -/
def fnNumberTruncateUptoRow : OpenClaim := { program := "ytppeacpklcdggaa", sum := "84d681d89206902cc231b9ea4a869a955c567f3838ee71b78125938e002f1206", func := "loop.example/multipathtransport/laws.FnNumberTruncate", spec := "fnNumberTruncate", apart := false, narrowed := true }
def FnNumberTruncateUptoSaid : Prop := fnNumberTruncateUptoRow.holds Try.pinned (OpenSpec.upto fnNumberTruncateSpec)

/-- 'laws.FnNumberExpand', WHERE WHAT IT READS IS OF BULK AT MOST 1048576: true; the input reads as it did. -/
def fnNumberExpandUptoRow : OpenClaim := { program := "ytppeacpklcdggaa", sum := "84d681d89206902cc231b9ea4a869a955c567f3838ee71b78125938e002f1206", func := "loop.example/multipathtransport/laws.FnNumberExpand", spec := "fnNumberExpand", unfollowed := true, recurses := true, apart := false, narrowed := true }
def FnNumberExpandUptoSaid : Prop := fnNumberExpandUptoRow.holds Try.pinned (OpenSpec.upto fnNumberExpandSpec)

/-- 'laws.FnNumberShift', WHERE WHAT IT READS IS OF BULK AT MOST 1048576: true; the input reads as it did. -/
def fnNumberShiftUptoRow : OpenClaim := { program := "ytppeacpklcdggaa", sum := "84d681d89206902cc231b9ea4a869a955c567f3838ee71b78125938e002f1206", func := "loop.example/multipathtransport/laws.FnNumberShift", spec := "fnNumberShift", unfollowed := true, recurses := true, apart := false, narrowed := true }
def FnNumberShiftUptoSaid : Prop := fnNumberShiftUptoRow.holds Try.pinned (OpenSpec.upto fnNumberShiftSpec)

/-- 'laws.FnNumberLonger', WHERE WHAT IT READS IS OF BULK AT MOST 1048576: true; the input reads as it did. -/
def fnNumberLongerUptoRow : OpenClaim := { program := "ytppeacpklcdggaa", sum := "84d681d89206902cc231b9ea4a869a955c567f3838ee71b78125938e002f1206", func := "loop.example/multipathtransport/laws.FnNumberLonger", spec := "fnNumberLonger", unfollowed := true, recurses := true, apart := false, narrowed := true }
def FnNumberLongerUptoSaid : Prop := fnNumberLongerUptoRow.holds Try.pinned (OpenSpec.upto fnNumberLongerSpec)

/-- 'laws.FnExactNumberBits', WHERE WHAT IT READS IS OF BULK AT MOST 1048576: true; the input reads as it did. -/
def fnExactNumberBitsUptoRow : OpenClaim := { program := "ytppeacpklcdggaa", sum := "84d681d89206902cc231b9ea4a869a955c567f3838ee71b78125938e002f1206", func := "loop.example/multipathtransport/laws.FnExactNumberBits", spec := "fnExactNumberBits", apart := false, narrowed := true }
def FnExactNumberBitsUptoSaid : Prop := fnExactNumberBitsUptoRow.holds Try.pinned (OpenSpec.upto fnExactNumberBitsSpec)

/-- 'laws.FnExactNumberTruncate', WHERE WHAT IT READS IS OF BULK AT MOST 1048576: true; the input reads as it did. -/
def fnExactNumberTruncateUptoRow : OpenClaim := { program := "ytppeacpklcdggaa", sum := "84d681d89206902cc231b9ea4a869a955c567f3838ee71b78125938e002f1206", func := "loop.example/multipathtransport/laws.FnExactNumberTruncate", spec := "fnExactNumberTruncate", apart := false, narrowed := true }
def FnExactNumberTruncateUptoSaid : Prop := fnExactNumberTruncateUptoRow.holds Try.pinned (OpenSpec.upto fnExactNumberTruncateSpec)

/-- 'laws.FnExactNumberExpand', WHERE WHAT IT READS IS OF BULK AT MOST 1048576: true; the input reads as it did. -/
def fnExactNumberExpandUptoRow : OpenClaim := { program := "ytppeacpklcdggaa", sum := "84d681d89206902cc231b9ea4a869a955c567f3838ee71b78125938e002f1206", func := "loop.example/multipathtransport/laws.FnExactNumberExpand", spec := "fnExactNumberExpand", unfollowed := true, recurses := true, apart := false, narrowed := true }
def FnExactNumberExpandUptoSaid : Prop := fnExactNumberExpandUptoRow.holds Try.pinned (OpenSpec.upto fnExactNumberExpandSpec)

end Rows
end Go.Proofs.Ytppeacpklcdggaa
