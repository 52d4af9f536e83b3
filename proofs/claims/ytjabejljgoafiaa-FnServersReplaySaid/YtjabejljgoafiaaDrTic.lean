/- A drawn ticket. -/
import Derived.Test.YtjabejljgoafiaaDrTime
import Derived.Test.YtjabejljgoafiaaSTickv
namespace Go.Proofs.Ytjabejljgoafiaa
open Go.RowKit
set_option linter.unusedVariables false
set_option linter.unusedSimpArgs false

theorem grown_below {w w' : World} (h : Below w.heap.size w w') (row : Option Nat) : w.grownBy w' row := ⟨h.os, h.tape, h.output, h.size, fun k hk _ => h.block k hk⟩
theorem grown_set {w W : World} {row : Option Nat} {c : Nat} (h : w.grownBy W row) (hc : w.heap.size ≤ c) (i : Nat) (v : Value) : w.grownBy (W.setCell ⟨c, i, none⟩ v) row :=
  ⟨h.os, h.tape, h.output, by simpa using h.size, fun k hk hr => (Lib.grownBy_setCell W c i v).block k (Nat.lt_of_lt_of_le hk h.size) (fun e => by have := Option.some.inj e; omega) |>.trans (h.block k hk hr)⟩
def DrewTic (w : World) (b k : Nat) (n : Int) (e : Ending) (w' : World) : Prop :=
  ∃ i t : Int, (0 ≤ i ∧ i < 8) ∧ (n - 12 ≤ t ∧ t ≤ n + 2) ∧ e = .returned (.agg #[.int .i64 i, .int .i64 t]) ∧ w.grownBy w' (some b) ∧ Rdr w' b (k + 3)
set_option maxRecDepth 100000 in
set_option maxHeartbeats 1000000 in
theorem drtic_any (b k : Nat) (n : Int) (w : World) (R : Rdr w b k) (hk : k ≤ 900000) (hn : -2000 ≤ n ∧ n ≤ 2000) :
    Calls Try.prog 33 #[.pointer (some ⟨b, 0, none⟩), .int .i64 n] w (DrewTic w b k n) := by
  have hbl : b < w.heap.size := R.1
  have RR := Lib.hid R
  have Z0 := Lib.hid (RgV.new w 0 (.int .i64 0) 27)
  have F0 := Lib.hid (Soft.new w #[.int .i64 0, .int .i64 0] 27)
  have U0 : Below w.heap.size w (w.alloc (.cells #[.int .i64 0, .int .i64 0] 27)) := (Below.refl _ _).alloc (Nat.le_refl _) _
  have R0 := Lib.hid (R.below U0)
  have G0 := Lib.hid (grown_below U0 (some b))
  clear R U0
  go_enter Try.func33, Try.ntmps33
  go_wp2_with fail
  refine (pick_rdr b k _ _ R0.out (by omega) (by omega) (by omega)).mono ?_
  rintro e w1 ⟨x, hx, rfl, hg1, R1⟩
  have Z1 := Lib.hid (Z0.out.kept hg1 (fun e => by have := Option.some.inj e; omega))
  have F1 := Lib.hid (F0.out.kept hg1 Z0.out.lt (fun e => by have := Option.some.inj e; omega))
  have G1 := Lib.hid (G0.out.trans hg1)
  have RR1 := Lib.hid R1
  clear hg1 R1
  go_wp2_with fail
  refine (pick_rdr b (k + 1) _ _ RR1.out (by omega) (by omega) (by omega)).mono ?_
  rintro e w2 ⟨y, hy, rfl, hg2, R2⟩
  have Z2 := Lib.hid (Z1.out.kept hg2 (fun e => by have := Option.some.inj e; omega))
  have F2 := Lib.hid (F1.out.kept hg2 Z1.out.lt (fun e => by have := Option.some.inj e; omega))
  have G2 := Lib.hid (G1.out.trans hg2)
  have RR2 := Lib.hid R2
  have hw1 : IntKind.i64.wrap (n - (y : Int)) = n - (y : Int) := IntWalk.i64_in _ (by omega)
  clear hg2 R2
  go_wp2_with fail
  refine (pick_rdr b (k + 1 + 1) _ _ RR2.out (by omega) (by omega) (by omega)).mono ?_
  rintro e w3 ⟨z, hz, rfl, hg3, R3⟩
  have Z3 := Lib.hid (Z2.out.kept hg3 (fun e => by have := Option.some.inj e; omega))
  have F3 := Lib.hid (F2.out.kept hg3 Z2.out.lt (fun e => by have := Option.some.inj e; omega))
  have G3 := Lib.hid (G2.out.trans hg3)
  have RR3 := Lib.hid R3
  have hw2 : IntKind.i64.wrap (n - (y : Int) + (z : Int)) = n - (y : Int) + (z : Int) := IntWalk.i64_in _ (by omega)
  clear hg3 R3
  obtain ⟨z0, z1⟩ := Z3.out
  have f0 := F3.out 0
  have f1 := F3.out 1
  have KE := Lib.hid ((Z3.out.set0 (x : Int)).set1 (.int .i64 (n - (y : Int) + (z : Int))))
  have GE : Hid (w.grownBy ((w3.setCell ⟨w.heap.size, 0, none⟩ (.int .i64 (x : Int))).setCell ⟨w.heap.size, 1, none⟩ (.int .i64 (n - (y : Int) + (z : Int)))) (some b)) := Lib.hid (grown_set (grown_set G3.out (Nat.le_refl _) _ _) (Nat.le_refl _) _ _)
  have RE : Hid (Rdr ((w3.setCell ⟨w.heap.size, 0, none⟩ (.int .i64 (x : Int))).setCell ⟨w.heap.size, 1, none⟩ (.int .i64 (n - (y : Int) + (z : Int)))) b (k + 1 + 1 + 1)) := Lib.hid ((RR3.out.grown (Lib.grownBy_setCell _ _ _ _) (fun r e => by have := Option.some.inj e; omega)).grown (Lib.grownBy_setCell _ _ _ _) (fun r e => by have := Option.some.inj e; omega))
  go_wp2_with fail
  generalize ((w3.setCell ⟨w.heap.size, 0, none⟩ (.int .i64 (x : Int))).setCell ⟨w.heap.size, 1, none⟩ (.int .i64 (n - (y : Int) + (z : Int)))) = WF at KE GE RE ⊢
  obtain ⟨k0, k1⟩ := KE.out
  refine bodyPost_ret (v := .agg #[.int .i64 (x : Int), .int .i64 (n - (y : Int) + (z : Int))]) ?hr rfl ?_
  case hr => rw [results_cell_1 rfl]; go_simp
  exact ⟨_, _, by omega, by omega, rfl, GE.out, RE.out⟩

end Go.Proofs.Ytjabejljgoafiaa
