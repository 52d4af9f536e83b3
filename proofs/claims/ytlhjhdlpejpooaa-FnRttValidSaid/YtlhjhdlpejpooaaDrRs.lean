/- The drawn arguments of RttUpdate. -/
import Derived.Test.YtlhjhdlpejpooaaDrRu
namespace Go.Proofs.Ytlhjhdlpejpooaa
open Go.RowKit
set_option linter.unusedVariables false
set_option linter.unusedSimpArgs false

theorem DQ.o4 {w W : World} {b k xb : Nat} {x y z t : Int} (h : DQ w W b k xb x y z t) :
    W.cell? ⟨xb, 0, none⟩ = some (.int .i64 x) ∧ W.cell? ⟨xb, 1, none⟩ = some (.int .i64 y) ∧ W.cell? ⟨xb, 2, none⟩ = some (.int .i64 z) ∧ W.cell? ⟨xb, 3, none⟩ = some (.int .i64 t) := ⟨h.o.c0, h.o.c1, h.o.c2, h.o.c3⟩
theorem DQ.all {w W : World} {b k xb : Nat} {x y z t : Int} (h : DQ w W b k xb x y z t) :
    W.cell? ⟨xb, 0, none⟩ = some (.int .i64 x) ∧ W.cell? ⟨xb, 1, none⟩ = some (.int .i64 y) ∧ W.cell? ⟨xb, 2, none⟩ = some (.int .i64 z) ∧ W.cell? ⟨xb, 3, none⟩ = some (.int .i64 t) ∧
    W.cell? ⟨w.heap.size, 0, none⟩ = some (.int .i64 0) ∧ W.cell? ⟨w.heap.size, 1, none⟩ = some (.int .i64 0) ∧ W.cell? ⟨w.heap.size, 2, none⟩ = some (.int .i64 0) ∧ W.cell? ⟨w.heap.size, 3, none⟩ = some (.int .i64 0) ∧
    W.frozen? ⟨w.heap.size, 0, none⟩ = false ∧ W.frozen? ⟨w.heap.size, 1, none⟩ = false ∧ W.frozen? ⟨w.heap.size, 2, none⟩ = false ∧ W.frozen? ⟨w.heap.size, 3, none⟩ = false :=
  ⟨h.o.c0, h.o.c1, h.o.c2, h.o.c3, h.zer.c0, h.zer.c1, h.zer.c2, h.zer.c3, h.zer.fz 0, h.zer.fz 1, h.zer.fz 2, h.zer.fz 3⟩
/-- The list was made ahead of the last pick. -/
theorem ru_one {w w8 w9 : World} {b k xb : Nat} {x y z t s : Int} {p5 p6 p7 : Nat} (h : DQ w w8 b k xb x y z t) (hg : (w8.alloc (.cells #[.int .i64 (-1), .int .i64 0, .int .i64 1, .int .i64 s, .int .i64 1000, .int .i64 (p5 : Int), .int .i64 (p6 : Int)] 3)).grownBy w9 (some b))
    (hs0 : 0 ≤ s) (hs9 : s ≤ 1000) (hp5 : (p5 : Int) < 60) (hp6 : (p6 : Int) < 20) (hp7 : (p7 : Int) < 7) :
    ∃ v : Int, -1 ≤ v ∧ v ≤ 1000 ∧ w9.cell? ⟨w8.heap.size, p7, none⟩ = some (.int .i64 v) ∧ ¬ w8.heap.size = w.heap.size ∧ ¬ w.heap.size = w8.heap.size := by
  obtain ⟨v, hv0, hv1, hv⟩ := d_at s p5 p6 ⟨hs0, hs9⟩ ⟨by omega, hp5⟩ ⟨by omega, hp6⟩ p7 hp7
  have hb := h.rd.1
  have ho := h.ord
  refine ⟨v, hv0, hv1, ?_, by omega, by omega⟩
  have hc : (w8.alloc (.cells #[.int .i64 (-1), .int .i64 0, .int .i64 1, .int .i64 s, .int .i64 1000, .int .i64 (p5 : Int), .int .i64 (p6 : Int)] 3)).cell? ⟨w8.heap.size, p7, none⟩ = some (.int .i64 v) := by rw [World.cell?_alloc_mark]; exact hv
  exact hg.cell hc (by intro e; have := Option.some.inj e; simp at this; omega)
/-- The list was made after it, behind the stores or ahead of them. -/
theorem ru_two {w w9 : World} {b k xb : Nat} {x y z t s : Int} {p5 p6 p7 : Nat} (h : DQ w w9 b k xb x y z t)
    (hs0 : 0 ≤ s) (hs9 : s ≤ 1000) (hp5 : (p5 : Int) < 60) (hp6 : (p6 : Int) < 20) (hp7 : (p7 : Int) < 7) :
    ∃ v : Int, -1 ≤ v ∧ v ≤ 1000 ∧ (w9.alloc (.cells #[.int .i64 (-1), .int .i64 0, .int .i64 1, .int .i64 s, .int .i64 1000, .int .i64 (p5 : Int), .int .i64 (p6 : Int)] 3)).cell? ⟨w9.heap.size, p7, none⟩ = some (.int .i64 v) ∧ (((((w9.setCell ⟨w.heap.size, 0, none⟩ (.int .i64 x)).setCell ⟨w.heap.size, 1, none⟩ (.int .i64 y)).setCell ⟨w.heap.size, 2, none⟩ (.int .i64 z)).setCell ⟨w.heap.size, 3, none⟩ (.int .i64 t)).alloc (.cells #[.int .i64 (-1), .int .i64 0, .int .i64 1, .int .i64 s, .int .i64 1000, .int .i64 (p5 : Int), .int .i64 (p6 : Int)] 3)).cell? ⟨w9.heap.size, p7, none⟩ = some (.int .i64 v) ∧ ¬ w9.heap.size = w.heap.size ∧ ¬ w.heap.size = w9.heap.size := by
  obtain ⟨v, hv0, hv1, hv⟩ := d_at s p5 p6 ⟨hs0, hs9⟩ ⟨by omega, hp5⟩ ⟨by omega, hp6⟩ p7 hp7
  have hb := h.rd.1
  have ho := h.ord
  have hz : ((((w9.setCell ⟨w.heap.size, 0, none⟩ (.int .i64 x)).setCell ⟨w.heap.size, 1, none⟩ (.int .i64 y)).setCell ⟨w.heap.size, 2, none⟩ (.int .i64 z)).setCell ⟨w.heap.size, 3, none⟩ (.int .i64 t)).heap.size = w9.heap.size := by simp [World.setCell]
  refine ⟨v, hv0, hv1, by rw [World.cell?_alloc_mark]; exact hv, ?_, by omega, by omega⟩
  rw [← hz, World.cell?_alloc_mark]; exact hv

set_option maxRecDepth 100000 in
set_option maxHeartbeats 4000000 in
theorem drawRu_any (a : Option Addr) (len cap : Nat) (zs : List Int) (w : World) (h : IsRow .u8 w a len cap zs) :
    Calls Try.prog 15 #[.slice a len cap] w (GotRu w) := by
  have U0 : Below w.heap.size w (w.alloc (.cells #[.int .i64 0, .int .i64 0, .int .i64 0, .int .i64 0] 24)) := (Below.refl _ _).alloc (Nat.le_refl _) _
  have H := Lib.hid (h.keep (w' := (w.alloc (.cells #[.int .i64 0, .int .i64 0, .int .i64 0, .int .i64 0] 24))) fun x hx hc i v hv => (U0.cell (World.block_lt_of_cell? _ _ hv)).trans hv)
  have Z0 := Lib.hid (R4.new w 0 0 0 0 24)
  have hs0 : (w.alloc (.cells #[.int .i64 0, .int .i64 0, .int .i64 0, .int .i64 0] 24)).heap.size = w.heap.size + 1 := by simp
  have HS0 := Lib.hid hs0
  have UU := Lib.hid U0
  clear h U0 hs0
  go_enter Try.func15, Try.ntmps15
  go_wp2_with fail
  refine (open_any a len cap zs _ H.out).mono ?_
  rintro e w1 ⟨rfl, hb, hR⟩
  have hb1 := Lib.hid (UU.out.trans (hb.mono (by have := HS0.out; omega)))
  have Z1 := Lib.hid (Z0.out.below hb Z0.out.lt)
  have RR := Lib.hid hR
  rw [HS0.out] at RR ⊢
  clear hb hR Z0 UU H
  go_wp2_with fail
  refine (drrt_any _ _ _ RR.out (by omega)).mono ?_
  rintro e w2 ⟨x, y, z, t, hbd, rfl, hg2, hR2⟩
  have D := Lib.hid (DQ.start (x := x) (y := y) (z := z) (t := t) (show w.heap.size < w.heap.size + 1 by omega) hb1.out Z1.out RR.out.1 hg2 hR2 24)
  clear hg2 hR2 hb1 Z1 RR
  go_upto_region 3 with fail
  generalize w2.alloc (.cells #[.int .i64 x, .int .i64 y, .int .i64 z, .int .i64 t] 24) = W3 at D ⊢
  generalize w2.heap.size = xb at D ⊢
  generalize w.heap.size + 1 = b at D ⊢
  go_wp2_with fail
  refine (pick_rdr b _ _ _ D.out.rd (by omega) (by omega) (by omega)).mono ?_
  rintro e w4 ⟨r, hr, rfl, hg4, hR4⟩
  have D4 := Lib.hid (D.out.pick hg4 hR4)
  have D5 := Lib.hid (D4.out.alloc (.cells #[.int .i64 0, .int .i64 1, .int .i64 999, .int .i64 1000, .int .i64 (1 + (r : Int))] 3))
  have hs4 : Hid (b < w4.heap.size) := Lib.hid (Nat.lt_of_lt_of_le D.out.rd.1 hg4.size)
  clear hg4 hR4 D
  go_wp2_with fail
  refine (pick_rdr b _ _ _ D5.out.rd (by omega) (by omega) (by omega)).mono ?_
  rintro e w5 ⟨p1, hp1, rfl, hg5, hR5⟩
  have D6 := Lib.hid (D5.out.pick hg5 hR5)
  have G5 := Lib.hid hg5
  clear hg5 hR5 D5 D4
  go_wp2_with fail
  refine (pick_rdr b _ _ _ D6.out.rd (by omega) (by omega) (by omega)).mono ?_
  rintro e w6 ⟨p2, hp2, rfl, hg6, hR6⟩
  have D7 := Lib.hid (D6.out.pick hg6 hR6)
  have G6 := Lib.hid (G5.out.trans hg6)
  clear hg6 hR6 D6 G5
  obtain ⟨s, hs0, hs9, hv⟩ := s_at (1 + (r : Int)) ⟨by omega, by omega⟩ (p1 + p2) (by omega)
  rw [← World.cell?_alloc_mark w4 #[.int .i64 0, .int .i64 1, .int .i64 999, .int .i64 1000, .int .i64 (1 + (r : Int))] 3 (0, 0) (p1 + p2)] at hv
  have hc := G6.out.cell hv (by have := hs4.out; intro e; have := Option.some.inj e; simp at this; omega)
  clear hv G6
  have hi1 : (0 : Int) ≤ (p1 : Int) + (p2 : Int) := by omega
  have hi2 : (p1 : Int) + (p2 : Int) < 5 := by omega
  have hi3 : ((p1 : Int) + (p2 : Int)).toNat = p1 + p2 := by omega
  go_upto_region 4 with fail
  clear hc hi1 hi2 hi3 hs4 hp1 hp2 hr
  have D6 := Lib.hid (D7.out.below (Below.refl _ _).drew)
  clear D7
  obtain ⟨j0, j1, j2, j3⟩ := D6.out.o4
  have hl5 : (1 : Int) ≤ 60 := by omega
  have hh5 : (60 : Int) ≤ 1000000 := by omega
  have hl6 : (1 : Int) ≤ 20 := by omega
  have hh6 : (20 : Int) ≤ 1000000 := by omega
  have hl7 : (1 : Int) ≤ 7 := by omega
  have hh7 : (7 : Int) ≤ 1000000 := by omega
  have hk1 : 0 + 40 + 1 + 1 + 1 ≤ 1000000 := by omega
  have hk2 : 0 + 40 + 1 + 1 + 1 + 1 ≤ 1000000 := by omega
  have hk3 : 0 + 40 + 1 + 1 + 1 + 1 + 1 ≤ 1000000 := by omega
  go_region_law ((first
    | (go_simp; (with_reducible refine (pick_rdr b _ 7 _ D8a.out.rd hl7 hh7 hk3).mono ?_); rintro e w9 ⟨p7, hp7, rfl, hg9, hR9⟩; have DD := Lib.hid (D8a.out.pick hg9 hR9); obtain ⟨v, hv0, hv1, hc, hd1, hd2⟩ := ru_one D8.out hg9 hs0 hs9 hp5 hp6 hp7; obtain ⟨n0, n1, n2, n3, z0, z1, z2, z3, f0, f1, f2, f3⟩ := DD.out.all)
    | (go_simp; (with_reducible refine (pick_rdr b _ 7 _ D8.out.rd hl7 hh7 hk3).mono ?_); rintro e w9 ⟨p7, hp7, rfl, hg9, hR9⟩; have D9 := Lib.hid (D8.out.pick hg9 hR9); have DA := Lib.hid (D9.out.alloc (.cells #[.int .i64 (-1), .int .i64 0, .int .i64 1, .int .i64 s, .int .i64 1000, .int .i64 (p5 : Int), .int .i64 (p6 : Int)] 3)); obtain ⟨v, hv0, hv1, hc, hcs, hd1, hd2⟩ := ru_two D9.out hs0 hs9 hp5 hp6 hp7; obtain ⟨n0, n1, n2, n3, z0, z1, z2, z3, f0, f1, f2, f3⟩ := D9.out.all; obtain ⟨y0, y1, y2, y3, u0, u1, u2, u3, g0, g1, g2, g3⟩ := DA.out.all)
    | (go_simp; (with_reducible refine (pick_rdr b _ 20 _ D7.out.rd hl6 hh6 hk2).mono ?_); rintro e w8 ⟨p6, hp6, rfl, hg8, hR8⟩; have D8 := Lib.hid (D7.out.pick hg8 hR8); have D8a := Lib.hid (D8.out.alloc (.cells #[.int .i64 (-1), .int .i64 0, .int .i64 1, .int .i64 s, .int .i64 1000, .int .i64 (p5 : Int), .int .i64 (p6 : Int)] 3)); obtain ⟨a0, a1, a2, a3⟩ := D8.out.o4; obtain ⟨b0, b1, b2, b3⟩ := D8a.out.o4)
    | (go_simp; (with_reducible refine (pick_rdr b _ 60 _ D6.out.rd hl5 hh5 hk1).mono ?_); rintro e w7 ⟨p5, hp5, rfl, hg7, hR7⟩; have D7 := Lib.hid (D6.out.pick hg7 hR7); obtain ⟨k0, k1, k2, k3⟩ := D7.out.o4)))
  all_goals
    go_wp2_with fail
    first
      | have KE := Lib.hid DD.out.fin
        generalize (((w9.setCell ⟨w.heap.size, 0, none⟩ (.int .i64 x)).setCell ⟨w.heap.size, 1, none⟩ (.int .i64 y)).setCell ⟨w.heap.size, 2, none⟩ (.int .i64 z)).setCell ⟨w.heap.size, 3, none⟩ (.int .i64 t) = WF at KE ⊢
        obtain ⟨e0, e1, e2, e3, ef⟩ := KE.out.1
        refine bodyPost_ret (v := .tuple #[.agg #[.int .i64 x, .int .i64 y, .int .i64 z, .int .i64 t], .int .i64 s, .int .i64 v]) ?hr rfl ?_
        case hr => rw [results_cell_tmp3 rfl]; go_simp
        exact ⟨_, _, _, _, _, _, ⟨hbd, ⟨hs0, hs9⟩, hv0, hv1⟩, rfl, KE.out.2⟩
      | have KE := Lib.hid DA.out.fin
        generalize ((((w9.alloc (.cells #[.int .i64 (-1), .int .i64 0, .int .i64 1, .int .i64 s, .int .i64 1000, .int .i64 (p5 : Int), .int .i64 (p6 : Int)] 3)).setCell ⟨w.heap.size, 0, none⟩ (.int .i64 x)).setCell ⟨w.heap.size, 1, none⟩ (.int .i64 y)).setCell ⟨w.heap.size, 2, none⟩ (.int .i64 z)).setCell ⟨w.heap.size, 3, none⟩ (.int .i64 t) = WF at KE ⊢
        obtain ⟨e0, e1, e2, e3, ef⟩ := KE.out.1
        refine bodyPost_ret (v := .tuple #[.agg #[.int .i64 x, .int .i64 y, .int .i64 z, .int .i64 t], .int .i64 s, .int .i64 v]) ?hr rfl ?_
        case hr => rw [results_cell_tmp3 rfl]; go_simp
        exact ⟨_, _, _, _, _, _, ⟨hbd, ⟨hs0, hs9⟩, hv0, hv1⟩, rfl, KE.out.2⟩
      | have KF := Lib.hid D9.out.fin
        have KE := Lib.hid (And.intro (KF.out.1.alloc (.cells #[.int .i64 (-1), .int .i64 0, .int .i64 1, .int .i64 s, .int .i64 1000, .int .i64 (p5 : Int), .int .i64 (p6 : Int)] 3)) (KF.out.2.alloc KF.out.2.size (.cells #[.int .i64 (-1), .int .i64 0, .int .i64 1, .int .i64 s, .int .i64 1000, .int .i64 (p5 : Int), .int .i64 (p6 : Int)] 3)))
        generalize ((((w9.setCell ⟨w.heap.size, 0, none⟩ (.int .i64 x)).setCell ⟨w.heap.size, 1, none⟩ (.int .i64 y)).setCell ⟨w.heap.size, 2, none⟩ (.int .i64 z)).setCell ⟨w.heap.size, 3, none⟩ (.int .i64 t)).alloc (.cells #[.int .i64 (-1), .int .i64 0, .int .i64 1, .int .i64 s, .int .i64 1000, .int .i64 (p5 : Int), .int .i64 (p6 : Int)] 3) = WF at KE ⊢
        obtain ⟨e0, e1, e2, e3, ef⟩ := KE.out.1
        refine bodyPost_ret (v := .tuple #[.agg #[.int .i64 x, .int .i64 y, .int .i64 z, .int .i64 t], .int .i64 s, .int .i64 v]) ?hr rfl ?_
        case hr => rw [results_cell_tmp3 rfl]; go_simp
        exact ⟨_, _, _, _, _, _, ⟨hbd, ⟨hs0, hs9⟩, hv0, hv1⟩, rfl, KE.out.2⟩

end Go.Proofs.Ytlhjhdlpejpooaa
