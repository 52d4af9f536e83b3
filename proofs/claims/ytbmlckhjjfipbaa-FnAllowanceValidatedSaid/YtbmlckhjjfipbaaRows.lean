/-
  No cell of these rows narrows 'for every input' (looked for: loops, veiled, ifaces, maps, wideKeys, modest, calm, conditions, laid).
  DERIVED. THE GIVEN ROWS OF THIS SEAT. 7 by the template 'for every input the law returns true; each argument reads behind the call as it read before'; 0 by the template 'total and deterministic' (their statements: YtbmlckhjjfipbaaTotals.lean).
  GIVEN WITH THE SEED: the statements are not yours to turn. If you find one false, say at which input.
  Laid BY PROGRAM, IN A SANDBOX (cutbox-rows.mjs): the forced cells as the released guide's own fill.sh prints them over the translation 9bc2068c58458051… (all of the seat's roots in one cut). By AI agents, Wed Nov 11 2026. No macro, syntax, notation, axiom, sorry.
-/
import Derived.Test.YtbmlckhjjfipbaaChecked
import GoSem.Claim
import GoSem.ClaimJoined
import GoSem.ClaimMapViews
import Derived.JoinedTies
import Derived.KernelRfl
namespace Go.Proofs.Ytbmlckhjjfipbaa
/- THE CELL 'sum', in the pinned program and in every row, IS THE sha256 OF THE DUMP (.gsa) THAT YtbmlckhjjfipbaaProg.lean LOADS. Nothing in Lean hashes anything: it is a label: what it is worth is what the hold of that sum in a sandbox is worth. -/
noncomputable def Try.pinned : Pinned := { name := "ytbmlckhjjfipbaa", sum := "9bc2068c584580518cee1816d3280bb971932600d337412134e3f9e94c45bfbe", checked := Try.checked }
namespace Rows
def none {H : Type} : Left H := { results := [], args := [] }

/-- 'laws.FnTokenFields': WHATEVER THE INPUT: true; the input reads as it did. -/
def fnTokenFieldsSpec : ChangeSpec := { name := "fnTokenFields", fn := fun _ => fun
  | [d] => { results := [.lit (.bool true)], args := [d] }
  | _ => none }
def fnTokenFieldsRow : OpenClaim := { program := "ytbmlckhjjfipbaa", sum := "9bc2068c584580518cee1816d3280bb971932600d337412134e3f9e94c45bfbe", func := "loop.example/multipathtransport/laws.FnTokenFields", spec := "fnTokenFields", apart := false }
def FnTokenFieldsSaid : Prop := fnTokenFieldsRow.holds Try.pinned (OpenSpec.ofChange fnTokenFieldsSpec)

/-- ITS FALSE NEIGHBOUR: 'it returns false'. Refute it at one input. -/
def fnTokenFieldsWrong : ChangeSpec := { name := "fnTokenFields", fn := fun _ => fun
  | [d] => { results := [.lit (.bool false)], args := [d] }
  | _ => none }
def FnTokenFieldsWrongFalsely : Prop := fnTokenFieldsRow.holds Try.pinned (OpenSpec.ofChange fnTokenFieldsWrong)

/-- 'laws.FnAllowanceThree': WHATEVER THE INPUT: true; the input reads as it did. -/
def fnAllowanceThreeSpec : ChangeSpec := { name := "fnAllowanceThree", fn := fun _ => fun
  | [d] => { results := [.lit (.bool true)], args := [d] }
  | _ => none }
def fnAllowanceThreeRow : OpenClaim := { program := "ytbmlckhjjfipbaa", sum := "9bc2068c584580518cee1816d3280bb971932600d337412134e3f9e94c45bfbe", func := "loop.example/multipathtransport/laws.FnAllowanceThree", spec := "fnAllowanceThree", apart := false }
def FnAllowanceThreeSaid : Prop := fnAllowanceThreeRow.holds Try.pinned (OpenSpec.ofChange fnAllowanceThreeSpec)

/-- ITS FALSE NEIGHBOUR: 'it returns false'. Refute it at one input. -/
def fnAllowanceThreeWrong : ChangeSpec := { name := "fnAllowanceThree", fn := fun _ => fun
  | [d] => { results := [.lit (.bool false)], args := [d] }
  | _ => none }
def FnAllowanceThreeWrongFalsely : Prop := fnAllowanceThreeRow.holds Try.pinned (OpenSpec.ofChange fnAllowanceThreeWrong)

/-- 'laws.FnAllowanceValidated': WHATEVER THE INPUT: true; the input reads as it did. -/
def fnAllowanceValidatedSpec : ChangeSpec := { name := "fnAllowanceValidated", fn := fun _ => fun
  | [d] => { results := [.lit (.bool true)], args := [d] }
  | _ => none }
def fnAllowanceValidatedRow : OpenClaim := { program := "ytbmlckhjjfipbaa", sum := "9bc2068c584580518cee1816d3280bb971932600d337412134e3f9e94c45bfbe", func := "loop.example/multipathtransport/laws.FnAllowanceValidated", spec := "fnAllowanceValidated", apart := false }
def FnAllowanceValidatedSaid : Prop := fnAllowanceValidatedRow.holds Try.pinned (OpenSpec.ofChange fnAllowanceValidatedSpec)

/-- ITS FALSE NEIGHBOUR: 'it returns false'. Refute it at one input. -/
def fnAllowanceValidatedWrong : ChangeSpec := { name := "fnAllowanceValidated", fn := fun _ => fun
  | [d] => { results := [.lit (.bool false)], args := [d] }
  | _ => none }
def FnAllowanceValidatedWrongFalsely : Prop := fnAllowanceValidatedRow.holds Try.pinned (OpenSpec.ofChange fnAllowanceValidatedWrong)

/-- 'laws.FnAllowanceSpend': WHATEVER THE INPUT: true; the input reads as it did. -/
def fnAllowanceSpendSpec : ChangeSpec := { name := "fnAllowanceSpend", fn := fun _ => fun
  | [d1, d2] => { results := [.lit (.bool true)], args := [d1, d2] }
  | _ => none }
def fnAllowanceSpendRow : OpenClaim := { program := "ytbmlckhjjfipbaa", sum := "9bc2068c584580518cee1816d3280bb971932600d337412134e3f9e94c45bfbe", func := "loop.example/multipathtransport/laws.FnAllowanceSpend", spec := "fnAllowanceSpend", apart := false }
def FnAllowanceSpendSaid : Prop := fnAllowanceSpendRow.holds Try.pinned (OpenSpec.ofChange fnAllowanceSpendSpec)

/-- ITS FALSE NEIGHBOUR: 'it returns false'. Refute it at one input. -/
def fnAllowanceSpendWrong : ChangeSpec := { name := "fnAllowanceSpend", fn := fun _ => fun
  | [d1, d2] => { results := [.lit (.bool false)], args := [d1, d2] }
  | _ => none }
def FnAllowanceSpendWrongFalsely : Prop := fnAllowanceSpendRow.holds Try.pinned (OpenSpec.ofChange fnAllowanceSpendWrong)

/-- 'laws.FnAllowanceReceive': WHATEVER THE INPUT: true; the input reads as it did. -/
def fnAllowanceReceiveSpec : ChangeSpec := { name := "fnAllowanceReceive", fn := fun _ => fun
  | [d1, d2] => { results := [.lit (.bool true)], args := [d1, d2] }
  | _ => none }
def fnAllowanceReceiveRow : OpenClaim := { program := "ytbmlckhjjfipbaa", sum := "9bc2068c584580518cee1816d3280bb971932600d337412134e3f9e94c45bfbe", func := "loop.example/multipathtransport/laws.FnAllowanceReceive", spec := "fnAllowanceReceive", apart := false }
def FnAllowanceReceiveSaid : Prop := fnAllowanceReceiveRow.holds Try.pinned (OpenSpec.ofChange fnAllowanceReceiveSpec)

/-- ITS FALSE NEIGHBOUR: 'it returns false'. Refute it at one input. -/
def fnAllowanceReceiveWrong : ChangeSpec := { name := "fnAllowanceReceive", fn := fun _ => fun
  | [d1, d2] => { results := [.lit (.bool false)], args := [d1, d2] }
  | _ => none }
def FnAllowanceReceiveWrongFalsely : Prop := fnAllowanceReceiveRow.holds Try.pinned (OpenSpec.ofChange fnAllowanceReceiveWrong)

/-- 'laws.FnAllowanceNothing': WHATEVER THE INPUT: true; the input reads as it did. -/
def fnAllowanceNothingSpec : ChangeSpec := { name := "fnAllowanceNothing", fn := fun _ => fun
  | [d] => { results := [.lit (.bool true)], args := [d] }
  | _ => none }
def fnAllowanceNothingRow : OpenClaim := { program := "ytbmlckhjjfipbaa", sum := "9bc2068c584580518cee1816d3280bb971932600d337412134e3f9e94c45bfbe", func := "loop.example/multipathtransport/laws.FnAllowanceNothing", spec := "fnAllowanceNothing", apart := false }
def FnAllowanceNothingSaid : Prop := fnAllowanceNothingRow.holds Try.pinned (OpenSpec.ofChange fnAllowanceNothingSpec)

/-- ITS FALSE NEIGHBOUR: 'it returns false'. Refute it at one input. -/
def fnAllowanceNothingWrong : ChangeSpec := { name := "fnAllowanceNothing", fn := fun _ => fun
  | [d] => { results := [.lit (.bool false)], args := [d] }
  | _ => none }
def FnAllowanceNothingWrongFalsely : Prop := fnAllowanceNothingRow.holds Try.pinned (OpenSpec.ofChange fnAllowanceNothingWrong)

/-- 'laws.FnExactTokenMake': WHATEVER THE INPUT: true; the input reads as it did. -/
def fnExactTokenMakeSpec : ChangeSpec := { name := "fnExactTokenMake", fn := fun _ => fun
  | [d1, d2, d3] => { results := [.lit (.bool true)], args := [d1, d2, d3] }
  | _ => none }
def fnExactTokenMakeRow : OpenClaim := { program := "ytbmlckhjjfipbaa", sum := "9bc2068c584580518cee1816d3280bb971932600d337412134e3f9e94c45bfbe", func := "loop.example/multipathtransport/laws.FnExactTokenMake", spec := "fnExactTokenMake", apart := false }
def FnExactTokenMakeSaid : Prop := fnExactTokenMakeRow.holds Try.pinned (OpenSpec.ofChange fnExactTokenMakeSpec)

/-- ITS FALSE NEIGHBOUR: 'it returns false'. Refute it at one input. -/
def fnExactTokenMakeWrong : ChangeSpec := { name := "fnExactTokenMake", fn := fun _ => fun
  | [d1, d2, d3] => { results := [.lit (.bool false)], args := [d1, d2, d3] }
  | _ => none }
def FnExactTokenMakeWrongFalsely : Prop := fnExactTokenMakeRow.holds Try.pinned (OpenSpec.ofChange fnExactTokenMakeWrong)

/- THE SECOND FORM. 'bulk': how many values and letters a reading holds, each counted each time it is reached (what is shared counts as often as it is met; a slice's spare places count too). A statement '..UptoSaid' is the law's where the arguments, and the package variables that the reading takes, are together of bulk at most 1048576: NARROWER than '..Said'. Prove '..Said' where nothing that the law and all that it calls make is longer than what came in: it says more and counts as full. Else prove '..UptoSaid'. A law counts once. -/
mutual
def uptoBulk {H : Type} : DataW H → Nat
  | .lit (.string bytes) => bytes.length + 1
  | .lit _ => 1
  | .nil => 1
  | .ptr d => uptoBulk d + 1
  | .slice elems spare => uptoBulkAll elems + uptoBulkAll spare + 1
  | .agg parts => uptoBulkAll parts + 1
  | .iface _ d => uptoBulk d + 1
  | .map entries => uptoBulkEntries entries + 1
  | .held _ => 1
def uptoBulkAll {H : Type} : List (DataW H) → Nat
  | [] => 0
  | d :: r => uptoBulk d + uptoBulkAll r
def uptoBulkEntries {H : Type} : List (Lit × DataW H) → Nat
  | [] => 0
  | x :: r => uptoBulkEntry x + uptoBulkEntries r
def uptoBulkEntry {H : Type} : Lit × DataW H → Nat
  | (.string bytes, d) => bytes.length + uptoBulk d + 1
  | (_, d) => uptoBulk d + 1
 end
def uptoSmall : (H : Type) → List (DataW H) → Bool := fun _ ds => decide (uptoBulkAll ds ≤ 1048576)
def OpenSpec.upto (s : _root_.Go.ChangeSpec) : _root_.Go.OpenSpec := { _root_.Go.OpenSpec.ofChange s with cond := some uptoSmall }

/-- 'laws.FnTokenFields', WHERE WHAT IT READS IS OF BULK AT MOST 1048576: true; the input reads as it did. -/
def fnTokenFieldsUptoRow : OpenClaim := { program := "ytbmlckhjjfipbaa", sum := "9bc2068c584580518cee1816d3280bb971932600d337412134e3f9e94c45bfbe", func := "loop.example/multipathtransport/laws.FnTokenFields", spec := "fnTokenFields", apart := false, narrowed := true }
def FnTokenFieldsUptoSaid : Prop := fnTokenFieldsUptoRow.holds Try.pinned (OpenSpec.upto fnTokenFieldsSpec)

/-- 'laws.FnAllowanceThree', WHERE WHAT IT READS IS OF BULK AT MOST 1048576: true; the input reads as it did. -/
def fnAllowanceThreeUptoRow : OpenClaim := { program := "ytbmlckhjjfipbaa", sum := "9bc2068c584580518cee1816d3280bb971932600d337412134e3f9e94c45bfbe", func := "loop.example/multipathtransport/laws.FnAllowanceThree", spec := "fnAllowanceThree", apart := false, narrowed := true }
def FnAllowanceThreeUptoSaid : Prop := fnAllowanceThreeUptoRow.holds Try.pinned (OpenSpec.upto fnAllowanceThreeSpec)

/-- 'laws.FnAllowanceValidated', WHERE WHAT IT READS IS OF BULK AT MOST 1048576: true; the input reads as it did. -/
def fnAllowanceValidatedUptoRow : OpenClaim := { program := "ytbmlckhjjfipbaa", sum := "9bc2068c584580518cee1816d3280bb971932600d337412134e3f9e94c45bfbe", func := "loop.example/multipathtransport/laws.FnAllowanceValidated", spec := "fnAllowanceValidated", apart := false, narrowed := true }
def FnAllowanceValidatedUptoSaid : Prop := fnAllowanceValidatedUptoRow.holds Try.pinned (OpenSpec.upto fnAllowanceValidatedSpec)

/-- 'laws.FnAllowanceSpend', WHERE WHAT IT READS IS OF BULK AT MOST 1048576: true; the input reads as it did. -/
def fnAllowanceSpendUptoRow : OpenClaim := { program := "ytbmlckhjjfipbaa", sum := "9bc2068c584580518cee1816d3280bb971932600d337412134e3f9e94c45bfbe", func := "loop.example/multipathtransport/laws.FnAllowanceSpend", spec := "fnAllowanceSpend", apart := false, narrowed := true }
def FnAllowanceSpendUptoSaid : Prop := fnAllowanceSpendUptoRow.holds Try.pinned (OpenSpec.upto fnAllowanceSpendSpec)

/-- 'laws.FnAllowanceReceive', WHERE WHAT IT READS IS OF BULK AT MOST 1048576: true; the input reads as it did. -/
def fnAllowanceReceiveUptoRow : OpenClaim := { program := "ytbmlckhjjfipbaa", sum := "9bc2068c584580518cee1816d3280bb971932600d337412134e3f9e94c45bfbe", func := "loop.example/multipathtransport/laws.FnAllowanceReceive", spec := "fnAllowanceReceive", apart := false, narrowed := true }
def FnAllowanceReceiveUptoSaid : Prop := fnAllowanceReceiveUptoRow.holds Try.pinned (OpenSpec.upto fnAllowanceReceiveSpec)

/-- 'laws.FnAllowanceNothing', WHERE WHAT IT READS IS OF BULK AT MOST 1048576: true; the input reads as it did. -/
def fnAllowanceNothingUptoRow : OpenClaim := { program := "ytbmlckhjjfipbaa", sum := "9bc2068c584580518cee1816d3280bb971932600d337412134e3f9e94c45bfbe", func := "loop.example/multipathtransport/laws.FnAllowanceNothing", spec := "fnAllowanceNothing", apart := false, narrowed := true }
def FnAllowanceNothingUptoSaid : Prop := fnAllowanceNothingUptoRow.holds Try.pinned (OpenSpec.upto fnAllowanceNothingSpec)

/-- 'laws.FnExactTokenMake', WHERE WHAT IT READS IS OF BULK AT MOST 1048576: true; the input reads as it did. -/
def fnExactTokenMakeUptoRow : OpenClaim := { program := "ytbmlckhjjfipbaa", sum := "9bc2068c584580518cee1816d3280bb971932600d337412134e3f9e94c45bfbe", func := "loop.example/multipathtransport/laws.FnExactTokenMake", spec := "fnExactTokenMake", apart := false, narrowed := true }
def FnExactTokenMakeUptoSaid : Prop := fnExactTokenMakeUptoRow.holds Try.pinned (OpenSpec.upto fnExactTokenMakeSpec)

end Rows
end Go.Proofs.Ytbmlckhjjfipbaa
