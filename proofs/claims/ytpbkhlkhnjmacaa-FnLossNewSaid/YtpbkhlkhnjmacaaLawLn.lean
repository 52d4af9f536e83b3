/- The law FnLossNew: the walk. -/
import Derived.Test.YtpbkhlkhnjmacaaSameLs
import Derived.Test.YtpbkhlkhnjmacaaLnw
import Derived.Test.YtpbkhlkhnjmacaaRdr
import Derived.Test.YtpbkhlkhnjmacaaIVm
import Derived.Test.YtpbkhlkhnjmacaaIVb
import Derived.Deep.RegionHeld3
namespace Go.Proofs.Ytpbkhlkhnjmacaa
open Go.RowKit
set_option linter.unusedVariables false
set_option linter.unusedSimpArgs false

theorem at_worldN {P : Program} {f : FuncId} {args : Array Value} {Q : Ending → World → Prop} (W : World) (h : Calls P f args W Q) : Calls P f args W Q := h
theorem pks_nil (W : World) : Pks W (.slice none 0 0) [] := ⟨none, 0, rfl, Nat.le_refl _, fun h => absurd rfl h⟩
theorem lok_new : lok (0, [], -1) := by
  refine ⟨⟨by simp, by simp⟩, ⟨by simp, by simp⟩, by simp, ?_, ?_⟩
  · intro p hp; simp at hp
  · exact List.Pairwise.nil
theorem lbytes_new : lbytesv (0, [], -1) = 0 := (lbytesv_yes lok_new).trans rfl
set_option maxRecDepth 100000 in
set_option maxHeartbeats 8000000 in
theorem lossnew_walk (a : Option Addr) (len cap : Nat) (zs : List Int) (w : World) (h : IsRow .u8 w a len cap zs) :
    Calls Try.prog 3 #[.slice a len cap] w fun e w' => e = .returned (.bool true) ∧ Below w.heap.size w w' := by
  clear h
  by_cases hl : 1048576 < len
  · go_enter Try.func3, Try.ntmps3
    go_wp2
    go_ret
    exact ⟨rfl, Below.refl _ _⟩
  have hll := hl
  go_enter Try.func3, Try.ntmps3
  go_wp2_with fail
  refine (inew_any w).mono ?_
  rintro e w1 ⟨rfl, hb1⟩
  have V1 := Lib.hid (SV.new (n := 0) (g := -1) (pks_nil w1) (.inr rfl) 25)
  have B1 := Lib.hid (bup hb1 (below_al w1 (.cells #[.int .i64 0, .slice none 0 0, .int .i64 (-1)] 25)))
  clear hb1
  go_upto_region 4 with fail
  generalize w1.alloc (.cells #[.int .i64 0, .slice none 0 0, .int .i64 (-1)] 25) = W1 at V1 B1 ⊢
  generalize w1.heap.size = xb at V1 ⊢
  have Vd := Lib.hid (V1.out.below (Below.refl _ _).drew)
  have Bd := Lib.hid (bup B1.out (Below.refl W1.heap.size W1).drew)
  have HLEN := Lib.hid (show (0 : Int) ≤ (len : Int) by omega)
  have hle := decide_eq_true HLEN.out
  have kd := And.intro (And.intro Vd.out.c.c0 Vd.out.c.c1) Vd.out.c.c2
  go_region_held3 (fun W => (W.cell? ⟨xb, 0, none⟩ = some (.int .i64 0) ∧ W.cell? ⟨xb, 1, none⟩ = some (.slice none 0 0)) ∧ W.cell? ⟨xb, 2, none⟩ = some (.int .i64 (-1))) (with_reducible first | assumption | exact kd | exact k2 | exact k3 | exact k4 | exact k5)
    ((first
      | (go_at_call 18; (with_reducible refine at_worldN W1.drew ?_); (with_reducible refine (snew_any _).mono ?_); rintro e w2 ⟨v2, rfl, hO2, hn2, hb2⟩; obtain ⟨a2, c2, rfl⟩ := OwnPk.shape hO2; have V2 := Lib.hid (Vd.out.below hb2); have O2 : Hid (Pks w2 (.slice a2 0 c2) []) := Lib.hid hO2.pks; have B2 := Lib.hid (bup Bd.out hb2); have k2 := And.intro (And.intro V2.out.c.c0 V2.out.c.c1) V2.out.c.c2; clear hO2 hn2 hb2)
      | (go_at_call 17; (with_reducible refine at_worldN w2 ?_); (with_reducible refine (samels_any 0 (-1) _ _ [] w2 V2.out.k O2.out (Nat.zero_le _)).mono ?_); rintro e w3 ⟨rfl, hb3⟩; have V3 := Lib.hid (V2.out.below hb3); have B3 := Lib.hid (bup B2.out hb3); have k3 := And.intro (And.intro V3.out.c.c0 V3.out.c.c1) V3.out.c.c2; clear hb3)
      | (go_at_call 19; (with_reducible refine at_worldN w3 ?_); (with_reducible refine (ilval_any 0 (-1) _ [] w3 V3.out.k (Nat.zero_le _)).mono ?_); rw [decide_eq_true lok_new]; rintro e w4 ⟨rfl, hb4⟩; have V4 := Lib.hid (V3.out.below hb4); have B4 := Lib.hid (bup B3.out hb4); have k4 := And.intro (And.intro V4.out.c.c0 V4.out.c.c1) V4.out.c.c2; clear hb4)
      | (go_at_call 20; (with_reducible refine at_worldN w4 ?_); (with_reducible refine (ilbytes_any 0 (-1) _ [] w4 V4.out.k (Nat.zero_le _)).mono ?_); rw [lbytes_new]; rintro e w5 ⟨rfl, hb5⟩; have V5 := Lib.hid (V4.out.below hb5); have B5 := Lib.hid (bup B4.out hb5); have k5 := And.intro (And.intro V5.out.c.c0 V5.out.c.c1) V5.out.c.c2; clear hb5)))
  all_goals
    go_wp2_with fail
    go_ret
    exact ⟨rfl, B5.out⟩

end Go.Proofs.Ytpbkhlkhnjmacaa
