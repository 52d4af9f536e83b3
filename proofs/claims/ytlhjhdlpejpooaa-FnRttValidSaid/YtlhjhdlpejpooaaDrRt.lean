/- A drawn estimate. -/
import Derived.Test.YtlhjhdlpejpooaaRdr
import Derived.Test.YtlhjhdlpejpooaaRtU
import Derived.OwnWalk
import Derived.BigRegion
import Derived.Deep.RegionHeld3
import Derived.Deep.RegionLaw
import Derived.Deep.Cut
import Derived.Deep.CutBlock
namespace Go.Proofs.Ytlhjhdlpejpooaa
open Go.RowKit
set_option linter.unusedVariables false
set_option linter.unusedSimpArgs false

theorem R4.kept {w W : World} {p : Nat} {row : Option Nat} {a b c d : Int} (h : R4 w p a b c d) (hg : w.grownBy W row) (hr : some p ≠ row) : R4 W p a b c d := by
  have e := hg.block p h.lt hr
  exact ⟨(World.cell?_of_block (w := w) (a := ⟨p, 0, none⟩) e).trans h.c0, (World.cell?_of_block (w := w) (a := ⟨p, 1, none⟩) e).trans h.c1, (World.cell?_of_block (w := w) (a := ⟨p, 2, none⟩) e).trans h.c2, (World.cell?_of_block (w := w) (a := ⟨p, 3, none⟩) e).trans h.c3, fun i => (World.frozen?_of_block (w := w) (a := ⟨p, i, none⟩) e).trans (h.fz i)⟩
theorem rt_grown_below {w w' : World} (h : Below w.heap.size w w') (row : Option Nat) : w.grownBy w' row := ⟨h.os, h.tape, h.output, h.size, fun k hk _ => h.block k hk⟩
theorem rt_grown_set {w W : World} {row : Option Nat} {c : Nat} (h : w.grownBy W row) (hc : w.heap.size ≤ c) (i : Nat) (v : Value) : w.grownBy (W.setCell ⟨c, i, none⟩ v) row :=
  ⟨h.os, h.tape, h.output, by simpa using h.size, fun k hk hr => (Lib.grownBy_setCell W c i v).block k (Nat.lt_of_lt_of_le hk h.size) (fun e => by have := Option.some.inj e; omega) |>.trans (h.block k hk hr)⟩
theorem Rdr.setc {w : World} {b k c : Nat} (h : Rdr w b k) (hc : b < c) (i : Nat) (v : Value) : Rdr (w.setCell ⟨c, i, none⟩ v) b k :=
  h.grown (Lib.grownBy_setCell _ _ _ _) (fun r e => by have := Option.some.inj e; omega)

/-- The reader, the result's block (zero) and the variable's block. -/
structure DR (w W : World) (b k : Nat) (x y z t : Int) : Prop where
  g : w.grownBy W (some b)
  rd : Rdr W b k
  zer : R4 W w.heap.size 0 0 0 0
  o : R4 W (w.heap.size + 1) x y z t
  hb : b < w.heap.size
theorem DR.below {w W W' : World} {b k : Nat} {x y z t : Int} (h : DR w W b k x y z t) (hb : Below W.heap.size W W') : DR w W' b k x y z t :=
  ⟨h.g.trans (rt_grown_below hb _), h.rd.below hb, h.zer.below hb h.zer.lt, h.o.below hb h.o.lt, h.hb⟩
theorem DR.pick {w W W' : World} {b k k' : Nat} {x y z t : Int} (h : DR w W b k x y z t) (hg : W.grownBy W' (some b)) (hR : Rdr W' b k') : DR w W' b k' x y z t := by
  have := h.hb
  exact ⟨h.g.trans hg, hR, h.zer.kept hg (fun e => by have := Option.some.inj e; omega), h.o.kept hg (fun e => by have := Option.some.inj e; omega), h.hb⟩
theorem DR.set0 {w W : World} {b k : Nat} {x y z t : Int} (h : DR w W b k x y z t) (v : Int) : DR w (W.setCell ⟨w.heap.size + 1, 0, none⟩ (.int .i64 v)) b k v y z t :=
  ⟨rt_grown_set h.g (by omega) _ _, h.rd.setc (by have := h.hb; omega) _ _, h.zer.far (by omega), h.o.set0 v, h.hb⟩
theorem DR.set1 {w W : World} {b k : Nat} {x y z t : Int} (h : DR w W b k x y z t) (v : Int) : DR w (W.setCell ⟨w.heap.size + 1, 1, none⟩ (.int .i64 v)) b k x v z t :=
  ⟨rt_grown_set h.g (by omega) _ _, h.rd.setc (by have := h.hb; omega) _ _, h.zer.far (by omega), h.o.set1 v, h.hb⟩
theorem DR.set2 {w W : World} {b k : Nat} {x y z t : Int} (h : DR w W b k x y z t) (v : Int) : DR w (W.setCell ⟨w.heap.size + 1, 2, none⟩ (.int .i64 v)) b k x y v t :=
  ⟨rt_grown_set h.g (by omega) _ _, h.rd.setc (by have := h.hb; omega) _ _, h.zer.far (by omega), h.o.set2 v, h.hb⟩
theorem DR.set3 {w W : World} {b k : Nat} {x y z t : Int} (h : DR w W b k x y z t) (v : Int) : DR w (W.setCell ⟨w.heap.size + 1, 3, none⟩ (.int .i64 v)) b k x y z v :=
  ⟨rt_grown_set h.g (by omega) _ _, h.rd.setc (by have := h.hb; omega) _ _, h.zer.far (by omega), h.o.set3 v, h.hb⟩
theorem DR.start {w : World} {b k : Nat} (hR : Rdr w b k) (T : TypeId) : DR w ((w.alloc (.cells #[.int .i64 0, .int .i64 0, .int .i64 0, .int .i64 0] T)).alloc (.cells #[.int .i64 0, .int .i64 0, .int .i64 0, .int .i64 0] T)) b k 0 0 0 0 := by
  have U : Below w.heap.size w ((w.alloc (.cells #[.int .i64 0, .int .i64 0, .int .i64 0, .int .i64 0] T)).alloc (.cells #[.int .i64 0, .int .i64 0, .int .i64 0, .int .i64 0] T)) := ((Below.refl _ _).alloc (Nat.le_refl _) _).alloc (by simp) _
  have k1 := R4.new (w.alloc (.cells #[.int .i64 0, .int .i64 0, .int .i64 0, .int .i64 0] T)) 0 0 0 0 T
  exact ⟨rt_grown_below U _, hR.below U, (R4.new w 0 0 0 0 T).alloc _, by simpa using k1, hR.1⟩

theorem DR.le {w W : World} {b k k' : Nat} {x y z t : Int} (h : DR w W b k x y z t) (hk : k ≤ k') : DR w W b k' x y z t := ⟨h.g, h.rd.le hk, h.zer, h.o, h.hb⟩
/-- What is drawn lies within wide bounds. -/
def rbd (x y z t : Int) : Prop := (-10 ≤ x ∧ x ≤ 2000) ∧ (-10 ≤ y ∧ y ≤ 2000) ∧ (-10 ≤ z ∧ z ≤ 9000) ∧ -10 ≤ t ∧ t ≤ 9000
theorem rok_bd {x y z t : Int} (h : rok x y z t) : (0 ≤ x ∧ x ≤ 999) ∧ (0 ≤ y ∧ y ≤ 999) ∧ (0 ≤ z ∧ z ≤ 7999) ∧ 0 ≤ t ∧ t ≤ 3999 := by unfold rok rz rs at h; omega
theorem DR.fin {w W : World} {b k : Nat} {x y z t : Int} (h : DR w W b k x y z t) :
    R4 ((((W.setCell ⟨w.heap.size, 0, none⟩ (.int .i64 x)).setCell ⟨w.heap.size, 1, none⟩ (.int .i64 y)).setCell ⟨w.heap.size, 2, none⟩ (.int .i64 z)).setCell ⟨w.heap.size, 3, none⟩ (.int .i64 t)) w.heap.size x y z t ∧
    w.grownBy ((((W.setCell ⟨w.heap.size, 0, none⟩ (.int .i64 x)).setCell ⟨w.heap.size, 1, none⟩ (.int .i64 y)).setCell ⟨w.heap.size, 2, none⟩ (.int .i64 z)).setCell ⟨w.heap.size, 3, none⟩ (.int .i64 t)) (some b) ∧
    Rdr ((((W.setCell ⟨w.heap.size, 0, none⟩ (.int .i64 x)).setCell ⟨w.heap.size, 1, none⟩ (.int .i64 y)).setCell ⟨w.heap.size, 2, none⟩ (.int .i64 z)).setCell ⟨w.heap.size, 3, none⟩ (.int .i64 t)) b k := by
  have hb := h.hb
  exact ⟨(((h.zer.set0 x).set1 y).set2 z).set3 t, rt_grown_set (rt_grown_set (rt_grown_set (rt_grown_set h.g (Nat.le_refl _) _ _) (Nat.le_refl _) _ _) (Nat.le_refl _) _ _) (Nat.le_refl _) _ _, (((h.rd.setc hb _ _).setc hb _ _).setc hb _ _).setc hb _ _⟩
theorem sm_at (y : Nat) (hy : (y : Int) < 5) : ∃ v : Int, -1 ≤ v ∧ v ≤ 8000 ∧ (#[.int .i64 0, .int .i64 7, .int .i64 8, .int .i64 7999, .int .i64 8000] : Array Value)[y]? = some (.int .i64 v) := by
  have hy' : y < 5 := by omega
  match y, hy' with
  | 0, _ => exact ⟨0, by omega, by omega, rfl⟩
  | 1, _ => exact ⟨7, by omega, by omega, rfl⟩
  | 2, _ => exact ⟨8, by omega, by omega, rfl⟩
  | 3, _ => exact ⟨7999, by omega, by omega, rfl⟩
  | 4, _ => exact ⟨8000, by omega, by omega, rfl⟩
theorem va_at (y : Nat) (hy : (y : Int) < 4) : ∃ v : Int, -1 ≤ v ∧ v ≤ 8000 ∧ (#[.int .i64 (-1), .int .i64 0, .int .i64 3999, .int .i64 4000] : Array Value)[y]? = some (.int .i64 v) := by
  have hy' : y < 4 := by omega
  match y, hy' with
  | 0, _ => exact ⟨-1, by omega, by omega, rfl⟩
  | 1, _ => exact ⟨0, by omega, by omega, rfl⟩
  | 2, _ => exact ⟨3999, by omega, by omega, rfl⟩
  | 3, _ => exact ⟨4000, by omega, by omega, rfl⟩
theorem vbd {p q : Nat} (h1 : (p : Int) < 2) (h2 : (q : Int) < 30) : 0 ≤ (p : Int) * ((q : Int) * 30) ∧ (p : Int) * ((q : Int) * 30) ≤ 870 := by
  rcases (by omega : p = 0 ∨ p = 1) with rfl | rfl <;> simp <;> omega
def DrewRt (w : World) (b k : Nat) (e : Ending) (w' : World) : Prop :=
  ∃ x y z t : Int, rbd x y z t ∧ e = .returned (.agg #[.int .i64 x, .int .i64 y, .int .i64 z, .int .i64 t]) ∧ w.grownBy w' (some b) ∧ Rdr w' b (k + 40)

set_option maxRecDepth 100000 in
set_option maxHeartbeats 8000000 in
theorem drrt_any (b k : Nat) (w : World) (R : Rdr w b k) (hk : k ≤ 890000) :
    Calls Try.prog 32 #[.pointer (some ⟨b, 0, none⟩)] w (DrewRt w b k) := by
  have D0 := Lib.hid (DR.start R 24)
  have hbl : b < w.heap.size := R.1
  clear R
  go_enter Try.func32, Try.ntmps32
  go_wp2_with fail
  generalize (w.alloc (.cells #[.int .i64 0, .int .i64 0, .int .i64 0, .int .i64 0] 24)).alloc (.cells #[.int .i64 0, .int .i64 0, .int .i64 0, .int .i64 0] 24) = W0 at D0 ⊢
  go_loopw [4] (fun iv wr => ∃ (j : Nat) (x y z t : Int), j ≤ 5 ∧ iv = .int .i64 (j : Int) ∧ Hid (rok x y z t) ∧ Hid (DR w wr b (k + 5 * j) x y z t)) (fun iv _ => 10 - (intOf iv).toNat)
  case atStart => exact ⟨0, 0, 0, 0, 0, by omega, rfl, Lib.hid (.inl ⟨rfl, rfl, rfl, rfl⟩), D0⟩
  case round =>
    obtain ⟨j, x, y, z, t, hj, rfl, HK, HD⟩ := hrel
    go_wp2_with fail
    refine (pick_rdr b _ _ _ HD.out.rd (by omega) (by omega) (by omega)).mono ?_
    rintro e w2 ⟨u, hu, rfl, hg2, R2⟩
    have HD2 := Lib.hid (HD.out.pick hg2 R2)
    clear hg2 R2 HD D0
    by_cases hlt : j < u
    · have hlt' : (j : Int) < (u : Int) := by omega
      go_upto_region 5 with fail
      have D1 := Lib.hid (HD2.out.below (Below.refl _ _).drew)
      have k1a := D1.out.o.c0
      have k1b := D1.out.o.c1
      have k1c := D1.out.o.c2
      have k1d := D1.out.o.c3
      have hh1 : (1 : Int) ≤ 100 := by omega
      have hh2 : (100 : Int) ≤ 1000000 := by omega
      have hh3 : (1 : Int) ≤ 2 := by omega
      have hh4 : (2 : Int) ≤ 1000000 := by omega
      have hh5 : (1 : Int) ≤ 30 := by omega
      have hh6 : (30 : Int) ≤ 1000000 := by omega
      have hh7 : (1 : Int) ≤ 20 := by omega
      have hh8 : (20 : Int) ≤ 1000000 := by omega
      have hk1 : k + 5 * j + 1 ≤ 1000000 := by omega
      have hk2 : k + 5 * j + 1 + 1 ≤ 1000000 := by omega
      have hk3 : k + 5 * j + 1 + 1 + 1 ≤ 1000000 := by omega
      have hk4 : k + 5 * j + 1 + 1 + 1 + 1 ≤ 1000000 := by omega
      go_region_law ((first
          | (go_simp; (with_reducible refine (l21_any x y z t (1 + (u1 : Int) + v) (u4 : Int) _ (by unfold uok; exact ⟨HK.out, by omega, by omega⟩)).mono ?_); rintro e w7 ⟨rfl, hb7⟩; have D6 := Lib.hid (D5.out.below hb7); have k6a := D6.out.o.c0; have k6b := D6.out.o.c1; have k6c := D6.out.o.c2; have k6d := D6.out.o.c3; have fz := D6.out.o.fz; have f0 := fz 0; have f1 := fz 1; have f2 := fz 2; have f3 := fz 3)
          | (go_simp; (with_reducible refine (pick_rdr b _ 20 _ D4.out.rd hh7 hh8 hk4).mono ?_); rintro e w6 ⟨u4, hu4, rfl, hg, hR⟩; have D5 := Lib.hid (D4.out.pick hg hR); have k5a := D5.out.o.c0; have k5b := D5.out.o.c1; have k5c := D5.out.o.c2; have k5d := D5.out.o.c3)
          | (go_simp; (with_reducible refine (pick_rdr b _ 30 _ D3.out.rd hh5 hh6 hk3).mono ?_); rintro e w5 ⟨u3, hu3, rfl, hg, hR⟩; have D4 := Lib.hid (D3.out.pick hg hR); have k4a := D4.out.o.c0; have k4b := D4.out.o.c1; have k4c := D4.out.o.c2; have k4d := D4.out.o.c3; have hvb := vbd hu2 hu3; obtain ⟨v, hv⟩ : ∃ v : Int, (u2 : Int) * ((u3 : Int) * 30) = v := ⟨_, rfl⟩; have hwa : IntKind.i64.wrap ((u3 : Int) * 30) = (u3 : Int) * 30 := IntWalk.i64_in _ (by omega); rw [hv] at hvb; obtain ⟨hv0, hv9⟩ := hvb; have hwb : IntKind.i64.wrap ((u2 : Int) * ((u3 : Int) * 30)) = v := (by rw [hv]; exact IntWalk.i64_in _ (by omega)); clear hv; have hwc : IntKind.i64.wrap (1 + (u1 : Int)) = 1 + (u1 : Int) := IntWalk.i64_in _ (by omega); have hwd : IntKind.i64.wrap (1 + (u1 : Int) + v) = 1 + (u1 : Int) + v := IntWalk.i64_in _ (by omega))
          | (go_simp; (with_reducible refine (pick_rdr b _ 2 _ D2.out.rd hh3 hh4 hk2).mono ?_); rintro e w4 ⟨u2, hu2, rfl, hg, hR⟩; have D3 := Lib.hid (D2.out.pick hg hR); have k3a := D3.out.o.c0; have k3b := D3.out.o.c1; have k3c := D3.out.o.c2; have k3d := D3.out.o.c3)
          | (go_simp; (with_reducible refine (pick_rdr b _ 100 _ D1.out.rd hh1 hh2 hk1).mono ?_); rintro e w3 ⟨u1, hu1, rfl, hg, hR⟩; have D2 := Lib.hid (D1.out.pick hg hR); have k2a := D2.out.o.c0; have k2b := D2.out.o.c1; have k2c := D2.out.o.c2; have k2d := D2.out.o.c3)))
      all_goals
        have HD7 := Lib.hid (((((D6.out.set0 (1 + (u1 : Int) + v)).set1 (uL x y (1 + (u1 : Int) + v))).set2 (uC x y z (1 + (u1 : Int) + v) (u4 : Int))).set3 (uD x y z t (1 + (u1 : Int) + v) (u4 : Int))).le (k' := k + 5 * (j + 1)) (by omega))
        have HK7 := Lib.hid (show rok (1 + (u1 : Int) + v) (uL x y (1 + (u1 : Int) + v)) (uC x y z (1 + (u1 : Int) + v) (u4 : Int)) (uD x y z t (1 + (u1 : Int) + v) (u4 : Int)) from .inr (u_ok HK.out (by omega) (by omega)))
        have hj5 : j + 1 ≤ 5 := by omega
        clear D1 D2 D3 D4 D5 D6 HD2
        go_wp2_with fail
        go_roundw
        case rel => exact ⟨j + 1, _, _, _, _, hj5, by go_num, HK7, HD7⟩
        case measure => simp [intOf]; omega
    · have hlt' : ¬ (j : Int) < (u : Int) := by omega
      obtain ⟨hx1, hy1, hz1, ht1⟩ := rok_bd HK.out
      have HD3 := Lib.hid (HD2.out.le (k' := k + 26) (by omega))
      clear HK HD2 hj
      go_wp2_with fail
      refine (pick_rdr b _ _ _ HD3.out.rd (by omega) (by omega) (by omega)).mono ?_
      rintro e w3 ⟨v, hv, rfl, hg3, R3⟩
      have HD4 := Lib.hid (HD3.out.pick hg3 R3)
      clear hg3 R3 HD3
      by_cases v0 : v = 0
      · have e0 : ((v : Int) == 0) = true := by rw [beq_iff_eq]; omega
        clear v0
        go_wp2_with fail
        refine (pick_rdr b _ _ _ HD4.out.rd (by omega) (by omega) (by omega)).mono ?_
        rintro e w4 ⟨p, hp, rfl, hg4, R4⟩
        have D5 := Lib.hid (HD4.out.pick hg4 R4)
        have f0 := D5.out.o.fz 0
        have f1 := D5.out.o.c0
        clear hg4 R4 HD4
        have D6 := Lib.hid (D5.out.set0 ((p : Int) - 1))
        go_upto_region 15 with fail
        generalize w4.setCell ⟨w.heap.size + 1, 0, none⟩ (.int .i64 ((p : Int) - 1)) = W5 at D6 ⊢
        clear f0 f1 D5
        have ZZ := D6.out.zer
        obtain ⟨z0, z1, z2, z3, zf⟩ := ZZ
        have zf0 := zf 0
        have zf1 := zf 1
        have zf2 := zf 2
        have zf3 := zf 3
        obtain ⟨o0, o1, o2, o3, of⟩ := id D6.out.o
        have KE := Lib.hid D6.out.fin
        go_wp2_with fail
        generalize (((W5.setCell ⟨w.heap.size, 0, none⟩ (.int .i64 ((p : Int) - 1))).setCell ⟨w.heap.size, 1, none⟩ (.int .i64 y)).setCell ⟨w.heap.size, 2, none⟩ (.int .i64 z)).setCell ⟨w.heap.size, 3, none⟩ (.int .i64 t) = WF at KE ⊢
        obtain ⟨k0, k1, k2, k3, kf⟩ := KE.out.1
        refine bodyPost_ret (v := .agg #[.int .i64 ((p : Int) - 1), .int .i64 y, .int .i64 z, .int .i64 t]) ?hr rfl ?_
        case hr => rw [results_cell_one rfl]; go_simp
        exact ⟨_, _, _, _, by unfold rbd; omega, rfl, KE.out.2.1, KE.out.2.2.le (by omega)⟩
      have n0 : ((v : Int) == 0) = false := by rw [beq_eq_false_iff_ne]; omega
      by_cases v1 : v = 1
      · have e1 : ((v : Int) == 1) = true := by rw [beq_iff_eq]; omega
        clear v0 v1
        go_upto_region 10 with fail
        have Dd := Lib.hid (HD4.out.below (Below.refl _ _).drew)
        have kd := Dd.out.o.c0
        have hlo : (1 : Int) ≤ 3 := by omega
        have hhi : (3 : Int) ≤ 1000000 := by omega
        have hkk : k + 26 + 1 ≤ 1000000 := by omega
        go_region_held3 (fun W => W.cell? ⟨w.heap.size + 1, 0, none⟩ = some (.int .i64 x)) (with_reducible first | assumption | exact kd | exact k8 | exact k9)
          ((go_at_call 33; (with_reducible refine (pick_rdr _ _ _ _ Dd.out.rd hlo hhi hkk).mono ?_); rintro e w4 ⟨p, hp, rfl, hg8, hR8⟩; have D5 := Lib.hid (Dd.out.pick hg8 hR8); have k8 := D5.out.o.c0; have f1 := D5.out.o.fz 1; have ff1 := D5.out.o.c1; have hw1 : IntKind.i64.wrap (x + (p : Int)) = x + (p : Int) := IntWalk.i64_in _ (by omega); have hw2 : IntKind.i64.wrap (x + (p : Int) - 1) = x + (p : Int) - 1 := IntWalk.i64_in _ (by omega); have D6 := Lib.hid (D5.out.set1 (x + (p : Int) - 1)); have k9 := D6.out.o.c0))
        all_goals
          go_upto_region 15 with fail
          generalize w4.setCell ⟨w.heap.size + 1, 1, none⟩ (.int .i64 (x + (p : Int) - 1)) = W5 at D6 ⊢
          clear k8 k9 f1 ff1 D5 kd Dd
          have ZZ := D6.out.zer
          obtain ⟨z0, z1, z2, z3, zf⟩ := ZZ
          have zf0 := zf 0
          have zf1 := zf 1
          have zf2 := zf 2
          have zf3 := zf 3
          obtain ⟨o0, o1, o2, o3, of⟩ := id D6.out.o
          have KE := Lib.hid D6.out.fin
          go_wp2_with fail
          generalize (((W5.setCell ⟨w.heap.size, 0, none⟩ (.int .i64 x)).setCell ⟨w.heap.size, 1, none⟩ (.int .i64 (x + (p : Int) - 1))).setCell ⟨w.heap.size, 2, none⟩ (.int .i64 z)).setCell ⟨w.heap.size, 3, none⟩ (.int .i64 t) = WF at KE ⊢
          obtain ⟨k0, k1, k2, k3, kf⟩ := KE.out.1
          refine bodyPost_ret (v := .agg #[.int .i64 x, .int .i64 (x + (p : Int) - 1), .int .i64 z, .int .i64 t]) ?hr rfl ?_
          case hr => rw [results_cell_one rfl]; go_simp
          exact ⟨_, _, _, _, by unfold rbd; omega, rfl, KE.out.2.1, KE.out.2.2.le (by omega)⟩
      have n1 : ((v : Int) == 1) = false := by rw [beq_eq_false_iff_ne]; omega
      by_cases v2 : v = 2
      · have e2 : ((v : Int) == 2) = true := by rw [beq_iff_eq]; omega
        clear v0 v1 v2
        have DA := Lib.hid (HD4.out.below ((Below.refl _ _).alloc (Nat.le_refl _) (.cells #[.int .i64 0, .int .i64 7, .int .i64 8, .int .i64 7999, .int .i64 8000] 3)))
        have hs3 : Hid (b < w3.heap.size) := Lib.hid HD4.out.rd.1
        clear HD4
        go_wp2_with fail
        refine (pick_rdr b _ _ _ DA.out.rd (by omega) (by omega) (by omega)).mono ?_
        rintro e w4 ⟨p, hp, rfl, hg4, R4⟩
        have D5 := Lib.hid (DA.out.pick hg4 R4)
        obtain ⟨q, hq0, hq1, hq⟩ := sm_at p hp
        rw [← World.cell?_alloc_mark w3 #[.int .i64 0, .int .i64 7, .int .i64 8, .int .i64 7999, .int .i64 8000] 3 (0, 0) p] at hq
        have hc := hg4.cell hq (by have := hs3.out; intro e; have := Option.some.inj e; simp at this; omega)
        have f0 := D5.out.o.fz 2
        have f1 := D5.out.o.c2
        clear hg4 R4 DA hq
        have D6 := Lib.hid (D5.out.set2 q)
        go_upto_region 15 with fail
        generalize w4.setCell ⟨w.heap.size + 1, 2, none⟩ (.int .i64 q) = W5 at D6 ⊢
        clear f0 f1 D5 hc
        have ZZ := D6.out.zer
        obtain ⟨z0, z1, z2, z3, zf⟩ := ZZ
        have zf0 := zf 0
        have zf1 := zf 1
        have zf2 := zf 2
        have zf3 := zf 3
        obtain ⟨o0, o1, o2, o3, of⟩ := id D6.out.o
        have KE := Lib.hid D6.out.fin
        go_wp2_with fail
        generalize (((W5.setCell ⟨w.heap.size, 0, none⟩ (.int .i64 x)).setCell ⟨w.heap.size, 1, none⟩ (.int .i64 y)).setCell ⟨w.heap.size, 2, none⟩ (.int .i64 q)).setCell ⟨w.heap.size, 3, none⟩ (.int .i64 t) = WF at KE ⊢
        obtain ⟨k0, k1, k2, k3, kf⟩ := KE.out.1
        refine bodyPost_ret (v := .agg #[.int .i64 x, .int .i64 y, .int .i64 q, .int .i64 t]) ?hr rfl ?_
        case hr => rw [results_cell_one rfl]; go_simp
        exact ⟨_, _, _, _, by unfold rbd; omega, rfl, KE.out.2.1, KE.out.2.2.le (by omega)⟩
      have n2 : ((v : Int) == 2) = false := by rw [beq_eq_false_iff_ne]; omega
      by_cases v3 : v = 3
      · have e3 : ((v : Int) == 3) = true := by rw [beq_iff_eq]; omega
        clear v0 v1 v2 v3
        have DA := Lib.hid (HD4.out.below ((Below.refl _ _).alloc (Nat.le_refl _) (.cells #[.int .i64 (-1), .int .i64 0, .int .i64 3999, .int .i64 4000] 3)))
        have hs3 : Hid (b < w3.heap.size) := Lib.hid HD4.out.rd.1
        clear HD4
        go_wp2_with fail
        refine (pick_rdr b _ _ _ DA.out.rd (by omega) (by omega) (by omega)).mono ?_
        rintro e w4 ⟨p, hp, rfl, hg4, R4⟩
        have D5 := Lib.hid (DA.out.pick hg4 R4)
        obtain ⟨q, hq0, hq1, hq⟩ := va_at p hp
        rw [← World.cell?_alloc_mark w3 #[.int .i64 (-1), .int .i64 0, .int .i64 3999, .int .i64 4000] 3 (0, 0) p] at hq
        have hc := hg4.cell hq (by have := hs3.out; intro e; have := Option.some.inj e; simp at this; omega)
        have f0 := D5.out.o.fz 3
        have f1 := D5.out.o.c3
        clear hg4 R4 DA hq
        have D6 := Lib.hid (D5.out.set3 q)
        go_upto_region 15 with fail
        generalize w4.setCell ⟨w.heap.size + 1, 3, none⟩ (.int .i64 q) = W5 at D6 ⊢
        clear f0 f1 D5 hc
        have ZZ := D6.out.zer
        obtain ⟨z0, z1, z2, z3, zf⟩ := ZZ
        have zf0 := zf 0
        have zf1 := zf 1
        have zf2 := zf 2
        have zf3 := zf 3
        obtain ⟨o0, o1, o2, o3, of⟩ := id D6.out.o
        have KE := Lib.hid D6.out.fin
        go_wp2_with fail
        generalize (((W5.setCell ⟨w.heap.size, 0, none⟩ (.int .i64 x)).setCell ⟨w.heap.size, 1, none⟩ (.int .i64 y)).setCell ⟨w.heap.size, 2, none⟩ (.int .i64 z)).setCell ⟨w.heap.size, 3, none⟩ (.int .i64 q) = WF at KE ⊢
        obtain ⟨k0, k1, k2, k3, kf⟩ := KE.out.1
        refine bodyPost_ret (v := .agg #[.int .i64 x, .int .i64 y, .int .i64 z, .int .i64 q]) ?hr rfl ?_
        case hr => rw [results_cell_one rfl]; go_simp
        exact ⟨_, _, _, _, by unfold rbd; omega, rfl, KE.out.2.1, KE.out.2.2.le (by omega)⟩
      have n3 : ((v : Int) == 3) = false := by rw [beq_eq_false_iff_ne]; omega
      clear v0 v1 v2 v3
      have ZZ := HD4.out.zer
      obtain ⟨z0, z1, z2, z3, zf⟩ := ZZ
      have zf0 := zf 0
      have zf1 := zf 1
      have zf2 := zf 2
      have zf3 := zf 3
      obtain ⟨o0, o1, o2, o3, of⟩ := id HD4.out.o
      have KE := Lib.hid HD4.out.fin
      go_wp2_with fail
      generalize (((w3.setCell ⟨w.heap.size, 0, none⟩ (.int .i64 x)).setCell ⟨w.heap.size, 1, none⟩ (.int .i64 y)).setCell ⟨w.heap.size, 2, none⟩ (.int .i64 z)).setCell ⟨w.heap.size, 3, none⟩ (.int .i64 t) = WF at KE ⊢
      obtain ⟨k0, k1, k2, k3, kf⟩ := KE.out.1
      refine bodyPost_ret (v := .agg #[.int .i64 x, .int .i64 y, .int .i64 z, .int .i64 t]) ?hr rfl ?_
      case hr => rw [results_cell_one rfl]; go_simp
      exact ⟨_, _, _, _, by unfold rbd; omega, rfl, KE.out.2.1, KE.out.2.2.le (by omega)⟩

end Go.Proofs.Ytlhjhdlpejpooaa
