/-
  No cell of these rows narrows 'for every input' (looked for: loops, veiled, ifaces, maps, wideKeys, modest, calm, conditions, laid).
  DERIVED. THE GIVEN ROWS OF THIS SEAT. 8 by the template 'for every input the law returns true; each argument reads behind the call as it read before'; 0 by the template 'total and deterministic' (their statements: YtfppnaaofkicaabTotals.lean).
  GIVEN WITH THE SEED: the statements are not yours to turn. If you find one false, say at which input.
  Laid BY PROGRAM, IN A SANDBOX (cutbox-rows.mjs): the forced cells as the released guide's own fill.sh prints them over the translation 74501706757c2375… (all of the seat's roots in one cut). By AI agents, Wed Nov 11 2026. No macro, syntax, notation, axiom, sorry.
-/
import Derived.Test.YtfppnaaofkicaabChecked
import GoSem.Claim
import GoSem.ClaimJoined
import GoSem.ClaimMapViews
import Derived.JoinedTies
import Derived.KernelRfl
namespace Go.Proofs.Ytfppnaaofkicaab
/- THE CELL 'sum', in the pinned program and in every row, IS THE sha256 OF THE DUMP (.gsa) THAT YtfppnaaofkicaabProg.lean LOADS. Nothing in Lean hashes anything: it is a label: what it is worth is what the hold of that sum in a sandbox is worth. -/
noncomputable def Try.pinned : Pinned := { name := "ytfppnaaofkicaab", sum := "74501706757c2375fb674081b60fff06eba5bf0bee1bb584842138150b441115", checked := Try.checked }
namespace Rows
def none {H : Type} : Left H := { results := [], args := [] }

/-- 'laws.FnVarintConcat': WHATEVER THE INPUT: true; the input reads as it did. -/
def fnVarintConcatSpec : ChangeSpec := { name := "fnVarintConcat", fn := fun _ => fun
  | [d1, d2] => { results := [.lit (.bool true)], args := [d1, d2] }
  | _ => none }
def fnVarintConcatRow : OpenClaim := { program := "ytfppnaaofkicaab", sum := "74501706757c2375fb674081b60fff06eba5bf0bee1bb584842138150b441115", func := "loop.example/multipathtransport/laws.FnVarintConcat", spec := "fnVarintConcat", apart := false }
def FnVarintConcatSaid : Prop := fnVarintConcatRow.holds Try.pinned (OpenSpec.ofChange fnVarintConcatSpec)

/-- ITS FALSE NEIGHBOUR: 'it returns false'. Refute it at one input. -/
def fnVarintConcatWrong : ChangeSpec := { name := "fnVarintConcat", fn := fun _ => fun
  | [d1, d2] => { results := [.lit (.bool false)], args := [d1, d2] }
  | _ => none }
def FnVarintConcatWrongFalsely : Prop := fnVarintConcatRow.holds Try.pinned (OpenSpec.ofChange fnVarintConcatWrong)

/-- 'laws.FnVarintHigh': WHATEVER THE INPUT: true; the input reads as it did. -/
def fnVarintHighSpec : ChangeSpec := { name := "fnVarintHigh", fn := fun _ => fun
  | [d1, d2] => { results := [.lit (.bool true)], args := [d1, d2] }
  | _ => none }
def fnVarintHighRow : OpenClaim := { program := "ytfppnaaofkicaab", sum := "74501706757c2375fb674081b60fff06eba5bf0bee1bb584842138150b441115", func := "loop.example/multipathtransport/laws.FnVarintHigh", spec := "fnVarintHigh", apart := false }
def FnVarintHighSaid : Prop := fnVarintHighRow.holds Try.pinned (OpenSpec.ofChange fnVarintHighSpec)

/-- ITS FALSE NEIGHBOUR: 'it returns false'. Refute it at one input. -/
def fnVarintHighWrong : ChangeSpec := { name := "fnVarintHigh", fn := fun _ => fun
  | [d1, d2] => { results := [.lit (.bool false)], args := [d1, d2] }
  | _ => none }
def FnVarintHighWrongFalsely : Prop := fnVarintHighRow.holds Try.pinned (OpenSpec.ofChange fnVarintHighWrong)

/-- 'laws.FnExactVarintLen': WHATEVER THE INPUT: true; the input reads as it did. -/
def fnExactVarintLenSpec : ChangeSpec := { name := "fnExactVarintLen", fn := fun _ => fun
  | [d] => { results := [.lit (.bool true)], args := [d] }
  | _ => none }
def fnExactVarintLenRow : OpenClaim := { program := "ytfppnaaofkicaab", sum := "74501706757c2375fb674081b60fff06eba5bf0bee1bb584842138150b441115", func := "loop.example/multipathtransport/laws.FnExactVarintLen", spec := "fnExactVarintLen", apart := false }
def FnExactVarintLenSaid : Prop := fnExactVarintLenRow.holds Try.pinned (OpenSpec.ofChange fnExactVarintLenSpec)

/-- ITS FALSE NEIGHBOUR: 'it returns false'. Refute it at one input. -/
def fnExactVarintLenWrong : ChangeSpec := { name := "fnExactVarintLen", fn := fun _ => fun
  | [d] => { results := [.lit (.bool false)], args := [d] }
  | _ => none }
def FnExactVarintLenWrongFalsely : Prop := fnExactVarintLenRow.holds Try.pinned (OpenSpec.ofChange fnExactVarintLenWrong)

/-- 'laws.FnExactVarintEncode': WHATEVER THE INPUT: true; the input reads as it did. -/
def fnExactVarintEncodeSpec : ChangeSpec := { name := "fnExactVarintEncode", fn := fun _ => fun
  | [d] => { results := [.lit (.bool true)], args := [d] }
  | _ => none }
def fnExactVarintEncodeRow : OpenClaim := { program := "ytfppnaaofkicaab", sum := "74501706757c2375fb674081b60fff06eba5bf0bee1bb584842138150b441115", func := "loop.example/multipathtransport/laws.FnExactVarintEncode", spec := "fnExactVarintEncode", apart := false }
def FnExactVarintEncodeSaid : Prop := fnExactVarintEncodeRow.holds Try.pinned (OpenSpec.ofChange fnExactVarintEncodeSpec)

/-- ITS FALSE NEIGHBOUR: 'it returns false'. Refute it at one input. -/
def fnExactVarintEncodeWrong : ChangeSpec := { name := "fnExactVarintEncode", fn := fun _ => fun
  | [d] => { results := [.lit (.bool false)], args := [d] }
  | _ => none }
def FnExactVarintEncodeWrongFalsely : Prop := fnExactVarintEncodeRow.holds Try.pinned (OpenSpec.ofChange fnExactVarintEncodeWrong)

/-- 'laws.FnExactVarintDecode': WHATEVER THE INPUT: true; the input reads as it did. -/
def fnExactVarintDecodeSpec : ChangeSpec := { name := "fnExactVarintDecode", fn := fun _ => fun
  | [d] => { results := [.lit (.bool true)], args := [d] }
  | _ => none }
def fnExactVarintDecodeRow : OpenClaim := { program := "ytfppnaaofkicaab", sum := "74501706757c2375fb674081b60fff06eba5bf0bee1bb584842138150b441115", func := "loop.example/multipathtransport/laws.FnExactVarintDecode", spec := "fnExactVarintDecode", apart := false }
def FnExactVarintDecodeSaid : Prop := fnExactVarintDecodeRow.holds Try.pinned (OpenSpec.ofChange fnExactVarintDecodeSpec)

/-- ITS FALSE NEIGHBOUR: 'it returns false'. Refute it at one input. -/
def fnExactVarintDecodeWrong : ChangeSpec := { name := "fnExactVarintDecode", fn := fun _ => fun
  | [d] => { results := [.lit (.bool false)], args := [d] }
  | _ => none }
def FnExactVarintDecodeWrongFalsely : Prop := fnExactVarintDecodeRow.holds Try.pinned (OpenSpec.ofChange fnExactVarintDecodeWrong)

/-- 'laws.FnExactVarintMinimal': WHATEVER THE INPUT: true; the input reads as it did. -/
def fnExactVarintMinimalSpec : ChangeSpec := { name := "fnExactVarintMinimal", fn := fun _ => fun
  | [d] => { results := [.lit (.bool true)], args := [d] }
  | _ => none }
def fnExactVarintMinimalRow : OpenClaim := { program := "ytfppnaaofkicaab", sum := "74501706757c2375fb674081b60fff06eba5bf0bee1bb584842138150b441115", func := "loop.example/multipathtransport/laws.FnExactVarintMinimal", spec := "fnExactVarintMinimal", apart := false }
def FnExactVarintMinimalSaid : Prop := fnExactVarintMinimalRow.holds Try.pinned (OpenSpec.ofChange fnExactVarintMinimalSpec)

/-- ITS FALSE NEIGHBOUR: 'it returns false'. Refute it at one input. -/
def fnExactVarintMinimalWrong : ChangeSpec := { name := "fnExactVarintMinimal", fn := fun _ => fun
  | [d] => { results := [.lit (.bool false)], args := [d] }
  | _ => none }
def FnExactVarintMinimalWrongFalsely : Prop := fnExactVarintMinimalRow.holds Try.pinned (OpenSpec.ofChange fnExactVarintMinimalWrong)

/-- 'laws.FnExactVarintJoin': WHATEVER THE INPUT: true; the input reads as it did. -/
def fnExactVarintJoinSpec : ChangeSpec := { name := "fnExactVarintJoin", fn := fun _ => fun
  | [d] => { results := [.lit (.bool true)], args := [d] }
  | _ => none }
def fnExactVarintJoinRow : OpenClaim := { program := "ytfppnaaofkicaab", sum := "74501706757c2375fb674081b60fff06eba5bf0bee1bb584842138150b441115", func := "loop.example/multipathtransport/laws.FnExactVarintJoin", spec := "fnExactVarintJoin", inPlace := ["internal/abi.NoEscape"], apart := false }
def FnExactVarintJoinSaid : Prop := fnExactVarintJoinRow.holds Try.pinned (OpenSpec.ofChange fnExactVarintJoinSpec)

/-- ITS FALSE NEIGHBOUR: 'it returns false'. Refute it at one input. -/
def fnExactVarintJoinWrong : ChangeSpec := { name := "fnExactVarintJoin", fn := fun _ => fun
  | [d] => { results := [.lit (.bool false)], args := [d] }
  | _ => none }
def FnExactVarintJoinWrongFalsely : Prop := fnExactVarintJoinRow.holds Try.pinned (OpenSpec.ofChange fnExactVarintJoinWrong)

/-- 'laws.FnExactVarintSplit': WHATEVER THE INPUT: true; the input reads as it did. -/
def fnExactVarintSplitSpec : ChangeSpec := { name := "fnExactVarintSplit", fn := fun _ => fun
  | [d] => { results := [.lit (.bool true)], args := [d] }
  | _ => none }
def fnExactVarintSplitRow : OpenClaim := { program := "ytfppnaaofkicaab", sum := "74501706757c2375fb674081b60fff06eba5bf0bee1bb584842138150b441115", func := "loop.example/multipathtransport/laws.FnExactVarintSplit", spec := "fnExactVarintSplit", apart := false }
def FnExactVarintSplitSaid : Prop := fnExactVarintSplitRow.holds Try.pinned (OpenSpec.ofChange fnExactVarintSplitSpec)

/-- ITS FALSE NEIGHBOUR: 'it returns false'. Refute it at one input. -/
def fnExactVarintSplitWrong : ChangeSpec := { name := "fnExactVarintSplit", fn := fun _ => fun
  | [d] => { results := [.lit (.bool false)], args := [d] }
  | _ => none }
def FnExactVarintSplitWrongFalsely : Prop := fnExactVarintSplitRow.holds Try.pinned (OpenSpec.ofChange fnExactVarintSplitWrong)

/- THE SECOND FORM. 'bulk': how many values and letters a reading holds, each counted each time it is reached (what is shared counts as often as it is met; a slice's spare places count too). A statement '..UptoSaid' is the law's where the arguments, and the package variables that the reading takes, are together of bulk at most 1048576: NARROWER than '..Said'. Prove '..Said' where nothing that the law and all that it calls make is longer than what came in: it says more and counts as full. Else prove '..UptoSaid'. A law counts once. -/
mutual
def uptoBulk {H : Type} : DataW H → Nat
  | .lit (.string bytes) => bytes.length + 1
  | .lit _ => 1
  | .nil => 1
  | .ptr d => uptoBulk d + 1
  | .slice elems spare => uptoBulkAll elems + uptoBulkAll spare + 1
  | .agg parts => uptoBulkAll parts + 1
  | .iface _ d => uptoBulk d + 1
  | .map entries => uptoBulkEntries entries + 1
  | .held _ => 1
def uptoBulkAll {H : Type} : List (DataW H) → Nat
  | [] => 0
  | d :: r => uptoBulk d + uptoBulkAll r
def uptoBulkEntries {H : Type} : List (Lit × DataW H) → Nat
  | [] => 0
  | x :: r => uptoBulkEntry x + uptoBulkEntries r
def uptoBulkEntry {H : Type} : Lit × DataW H → Nat
  | (.string bytes, d) => bytes.length + uptoBulk d + 1
  | (_, d) => uptoBulk d + 1
 end
def uptoSmall : (H : Type) → List (DataW H) → Bool := fun _ ds => decide (uptoBulkAll ds ≤ 1048576)
def OpenSpec.upto (s : _root_.Go.ChangeSpec) : _root_.Go.OpenSpec := { _root_.Go.OpenSpec.ofChange s with cond := some uptoSmall }

/-- 'laws.FnVarintConcat', WHERE WHAT IT READS IS OF BULK AT MOST 1048576: true; the input reads as it did. -/
def fnVarintConcatUptoRow : OpenClaim := { program := "ytfppnaaofkicaab", sum := "74501706757c2375fb674081b60fff06eba5bf0bee1bb584842138150b441115", func := "loop.example/multipathtransport/laws.FnVarintConcat", spec := "fnVarintConcat", apart := false, narrowed := true }
def FnVarintConcatUptoSaid : Prop := fnVarintConcatUptoRow.holds Try.pinned (OpenSpec.upto fnVarintConcatSpec)

/-- 'laws.FnVarintHigh', WHERE WHAT IT READS IS OF BULK AT MOST 1048576: true; the input reads as it did. -/
def fnVarintHighUptoRow : OpenClaim := { program := "ytfppnaaofkicaab", sum := "74501706757c2375fb674081b60fff06eba5bf0bee1bb584842138150b441115", func := "loop.example/multipathtransport/laws.FnVarintHigh", spec := "fnVarintHigh", apart := false, narrowed := true }
def FnVarintHighUptoSaid : Prop := fnVarintHighUptoRow.holds Try.pinned (OpenSpec.upto fnVarintHighSpec)

/-- 'laws.FnExactVarintLen', WHERE WHAT IT READS IS OF BULK AT MOST 1048576: true; the input reads as it did. -/
def fnExactVarintLenUptoRow : OpenClaim := { program := "ytfppnaaofkicaab", sum := "74501706757c2375fb674081b60fff06eba5bf0bee1bb584842138150b441115", func := "loop.example/multipathtransport/laws.FnExactVarintLen", spec := "fnExactVarintLen", apart := false, narrowed := true }
def FnExactVarintLenUptoSaid : Prop := fnExactVarintLenUptoRow.holds Try.pinned (OpenSpec.upto fnExactVarintLenSpec)

/-- 'laws.FnExactVarintEncode', WHERE WHAT IT READS IS OF BULK AT MOST 1048576: true; the input reads as it did. -/
def fnExactVarintEncodeUptoRow : OpenClaim := { program := "ytfppnaaofkicaab", sum := "74501706757c2375fb674081b60fff06eba5bf0bee1bb584842138150b441115", func := "loop.example/multipathtransport/laws.FnExactVarintEncode", spec := "fnExactVarintEncode", apart := false, narrowed := true }
def FnExactVarintEncodeUptoSaid : Prop := fnExactVarintEncodeUptoRow.holds Try.pinned (OpenSpec.upto fnExactVarintEncodeSpec)

/-- 'laws.FnExactVarintDecode', WHERE WHAT IT READS IS OF BULK AT MOST 1048576: true; the input reads as it did. -/
def fnExactVarintDecodeUptoRow : OpenClaim := { program := "ytfppnaaofkicaab", sum := "74501706757c2375fb674081b60fff06eba5bf0bee1bb584842138150b441115", func := "loop.example/multipathtransport/laws.FnExactVarintDecode", spec := "fnExactVarintDecode", apart := false, narrowed := true }
def FnExactVarintDecodeUptoSaid : Prop := fnExactVarintDecodeUptoRow.holds Try.pinned (OpenSpec.upto fnExactVarintDecodeSpec)

/-- 'laws.FnExactVarintMinimal', WHERE WHAT IT READS IS OF BULK AT MOST 1048576: true; the input reads as it did. -/
def fnExactVarintMinimalUptoRow : OpenClaim := { program := "ytfppnaaofkicaab", sum := "74501706757c2375fb674081b60fff06eba5bf0bee1bb584842138150b441115", func := "loop.example/multipathtransport/laws.FnExactVarintMinimal", spec := "fnExactVarintMinimal", apart := false, narrowed := true }
def FnExactVarintMinimalUptoSaid : Prop := fnExactVarintMinimalUptoRow.holds Try.pinned (OpenSpec.upto fnExactVarintMinimalSpec)

/-- 'laws.FnExactVarintJoin', WHERE WHAT IT READS IS OF BULK AT MOST 1048576: true; the input reads as it did. -/
def fnExactVarintJoinUptoRow : OpenClaim := { program := "ytfppnaaofkicaab", sum := "74501706757c2375fb674081b60fff06eba5bf0bee1bb584842138150b441115", func := "loop.example/multipathtransport/laws.FnExactVarintJoin", spec := "fnExactVarintJoin", inPlace := ["internal/abi.NoEscape"], apart := false, narrowed := true }
def FnExactVarintJoinUptoSaid : Prop := fnExactVarintJoinUptoRow.holds Try.pinned (OpenSpec.upto fnExactVarintJoinSpec)

/-- 'laws.FnExactVarintSplit', WHERE WHAT IT READS IS OF BULK AT MOST 1048576: true; the input reads as it did. -/
def fnExactVarintSplitUptoRow : OpenClaim := { program := "ytfppnaaofkicaab", sum := "74501706757c2375fb674081b60fff06eba5bf0bee1bb584842138150b441115", func := "loop.example/multipathtransport/laws.FnExactVarintSplit", spec := "fnExactVarintSplit", apart := false, narrowed := true }
def FnExactVarintSplitUptoSaid : Prop := fnExactVarintSplitUptoRow.holds Try.pinned (OpenSpec.upto fnExactVarintSplitSpec)

end Rows
end Go.Proofs.Ytfppnaaofkicaab
