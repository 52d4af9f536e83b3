/- errors.Is by its contracts: nil, and an error of the program's type of rejections, whose Unwrap hands on the variable. -/
import Derived.Test.YtbmlckhjjfipbaaDoorBase
import Derived.LaidEql
import Derived.Stop.Asserts
import Derived.RowKitTokens
import Derived.Below
namespace Go.Proofs.YtbmlckhjjfipbaaDoor
open Go.RowKit Go.Extern Go.Extern.Rtype
set_option linter.unusedVariables false
set_option linter.unusedSimpArgs false

theorem eTypeOf (v : Value) (w : World) : (Extern.ReflectliteType.typeOf #[.iface 68 v]).run Tryd.prog w = .ok (.iface 58 (.agg #[.pointer (some ⟨1, 68, none⟩)])) w := by kernel_rfl
def comparableR : Array Value → Sem Value := Extern.ReflectliteType.method fun t => do noPackHeld "Comparable" t; pure (.bool (← typeInfo t).comparable)
theorem eComparable (w : World) : (comparableR #[.agg #[.pointer (some ⟨1, 68, none⟩)]]).run Tryd.prog w = .ok (.bool true) w := by kernel_rfl
theorem eComp : (Tryd.prog.info? 68).map (·.comparable) = some true := by kernel_rfl
theorem eSize : (Tryd.prog.info? 94).map (·.size) = some 1 := by kernel_rfl
theorem noIsR (v : Value) (xT : TypeId) (w : World) : (Instr.typeAssert (.iface 56 v) xT 60 true).run Tryd.prog w = .ok (.tuple #[.nilIface, .bool false]) w := run_typeAssert_lacksB Tryd.underlying60 (by kernel_rfl) (by kernel_rfl) v xT w
theorem hasUnwrapR (v : Value) (xT : TypeId) (w : World) : (Instr.typeAssert (.iface 56 v) xT 63 true).run Tryd.prog w = .ok (.tuple #[.iface 56 v, .bool true]) w := run_typeAssert_hasB Tryd.underlying63 (by kernel_rfl) v xT w

theorem methodUnwrapR (n : Nat) (v : Value) (w : World) : (Go.method (n + 1) 56 v "Unwrap").run Tryd.prog w = .ok (44, v) w := by rfl
theorem methodComparable (n : Nat) (v : Value) (w : World) : (Go.method (n + 1) 58 v "Comparable").run Tryd.prog w = .ok (48, v) w := by rfl

/-- errors.Is(nil, x). -/
theorem is_nil (b : Addr) (w : World) :
    Calls Tryd.prog 22 #[.nilIface, .iface 68 (.pointer (some b))] w fun e w' => e = .returned (.bool false) ∧ w' = w := by
  have hn := run_eql_iface_nil_left (P := Tryd.prog) w 68 (.pointer (some b)) Tryd.underlying45
  go_enter Tryd.func22, Tryd.ntmps22
  go_wp2
  go_ret
  exact ⟨rfl, rfl⟩

theorem unwrap_any (s : ByteArray) (b : Addr) (w : World) (hg : w.cell? ⟨0, 0, none⟩ = some (.iface 68 (.pointer (some b)))) :
    Calls Tryd.prog 44 #[.string s] w fun e w' => e = .returned (.iface 68 (.pointer (some b))) ∧ w' = w := by
  go_enter Tryd.func44, Tryd.ntmps44
  go_wp2
  go_ret
  exact ⟨rfl, rfl⟩

/-- errors.Is(r, x), r a rejection, x what the variable holds. -/
theorem is_rej (s : ByteArray) (b : Addr) (w : World) (hg : w.cell? ⟨0, 0, none⟩ = some (.iface 68 (.pointer (some b)))) :
    Calls Tryd.prog 22 #[.iface 56 (.string s), .iface 68 (.pointer (some b))] w fun e w' => e = .returned (.bool true) ∧ w' = w := by
  obtain ⟨i, hi, hcmp⟩ := Option.map_eq_some_iff.1 eComp
  obtain ⟨j, hj, hjs⟩ := Option.map_eq_some_iff.1 eSize
  have h8 := run_callFunc_extern (P := Tryd.prog) (f := 26) (e := Extern.ReflectliteType.typeOf) Tryd.func26 (by kernel_rfl) (by kernel_rfl) (by kernel_rfl) (by kernel_rfl)
  have h32 := run_callFunc_extern (P := Tryd.prog) (f := 48) (e := comparableR) Tryd.func48 (by kernel_rfl) (by kernel_rfl) (by kernel_rfl) (by kernel_rfl)
  have tT := eTypeOf
  have cT := eComparable
  have nR := noIsR
  have uR := hasUnwrapR
  have mU := methodUnwrapR
  have mC := methodComparable
  have heq := run_eql_iface_ptr_same (P := Tryd.prog) w b Tryd.underlying45 Tryd.underlying68 hi hcmp hj
  have hty := run_eql_iface_types (P := Tryd.prog) 56 68 (.string s) (.pointer (some b)) Tryd.underlying45 (by decide) w
  go_enter Tryd.func22, Tryd.ntmps22
  go_wp2
  refine wp_loop_rounds 2 ?_
  rw [rounds_succ]
  go_wp2
  rw [rounds_succ]
  go_wp2
  go_ret
  exact ⟨rfl, rfl⟩

end Go.Proofs.YtbmlckhjjfipbaaDoor
