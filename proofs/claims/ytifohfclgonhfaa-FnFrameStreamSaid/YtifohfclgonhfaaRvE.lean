/- Chapter 31, the model: l31Read. -/
import Derived.Test.YtifohfclgonhfaaRvD
import Derived.Deep.RegionHeld3
namespace Go.Proofs.Ytifohfclgonhfaa
open Go.RowKit
set_option linter.unusedVariables false
set_option linter.unusedSimpArgs false

theorem spieces_int (g B : Nat) (fr : Int) (w : World) (h : Row30 w B (.slice (some ⟨g, 0, none⟩) 30 30)) (h0 : 0 ≤ fr) (h1 : fr ≤ 1000) :
    Calls Try.prog 91 #[.slice (some ⟨g, 0, none⟩) 30 30, .int .i64 fr] w (PcPost w fr) := by
  obtain ⟨n, rfl⟩ := Int.eq_ofNat_of_zero_le h0
  exact spieces_any g B n w h (by omega)

abbrev SS (w W : World) (rd fi li : Int) (v : Value) (l : List Pc) : Prop := W.cell? ⟨w.heap.size, 0, none⟩ = some (.int .i64 rd) ∧ W.cell? ⟨w.heap.size, 1, none⟩ = some v ∧ W.cell? ⟨w.heap.size, 2, none⟩ = some (.int .i64 fi) ∧ W.cell? ⟨w.heap.size, 3, none⟩ = some (.int .i64 li) ∧ Cur w W rd fi li v l
theorem sc_of {w W : World} {rd fi li : Int} {v : Value} {l : List Pc} (h : Cur w W rd fi li v l) : W.cell? ⟨w.heap.size, 0, none⟩ = some (.int .i64 rd) ∧ W.cell? ⟨w.heap.size, 1, none⟩ = some v ∧ W.cell? ⟨w.heap.size, 2, none⟩ = some (.int .i64 fi) ∧ W.cell? ⟨w.heap.size, 3, none⟩ = some (.int .i64 li) ∧ Cur w W rd fi li v l := ⟨h.2.2.1 0, h.2.2.1 1, h.2.2.1 2, h.2.2.1 3, h⟩
theorem Cur.alloc {w W : World} {rd fi li : Int} {v : Value} {l : List Pc} (h : Cur w W rd fi li v l) (o : Obj) : Cur w (W.alloc o) rd fi li v l := h.below ((Below.refl _ _).alloc (Nat.le_refl _) o)
theorem Cur.drew {w W : World} {rd fi li : Int} {v : Value} {l : List Pc} (h : Cur w W rd fi li v l) (n : Nat) : Cur w (W.drewN n) rd fi li v l := h.below (below_drewN' (Below.refl _ _) n)

theorem Pcs.far {w : World} {g o n c b i : Nat} {u : Value} {l : List Pc} (h : Pcs w (.slice (some ⟨g, o, none⟩) n c) l) (hb : b ≠ g) : Pcs (w.setCell ⟨b, i, none⟩ u) (.slice (some ⟨g, o, none⟩) n c) l := by
  obtain ⟨g', o', c', he, hn, hc⟩ := h
  injection he with e1 e2 e3
  injection e1 with e1
  injection e1 with e1 e4
  subst e1 e4 e3
  refine ⟨g, o, c, by rw [e2], hn, fun i hi => ⟨?_, ?_⟩⟩
  · exact (World.cell?_setCell_other _ _ _ _ (by intro e; injection e with e1 e2 e3; exact hb e1)).trans (hc i hi).1
  · exact (World.cell?_setCell_other _ _ _ _ (by intro e; injection e with e1 e2 e3; exact hb e1)).trans (hc i hi).2
theorem Cur.set {w W : World} {rd fi li : Int} {g o n c b i : Nat} {u : Value} {l : List Pc} (h : Cur w W rd fi li (.slice (some ⟨g, o, none⟩) n c) l) (hb : b ≠ g) (hb1 : w.heap.size + 1 < b) : Cur w (W.setCell ⟨b, i, none⟩ u) rd fi li (.slice (some ⟨g, o, none⟩) n c) l := by
  obtain ⟨h1, h2, h3, h4, h5, h6⟩ := h
  exact ⟨h1.setCell (p := ⟨b, i, none⟩) (by show _ ≤ b; omega) _, h2.far hb, h3.far (by omega) _, h4.far (by omega) _, h5.set _ _, by simpa using h6⟩
theorem sc_store {w W : World} {rd fi li : Int} {g o n c b : Nat} {l : List Pc} (h : Cur w W rd fi li (.slice (some ⟨g, o, none⟩) n c) l) (hb : b ≠ g) (hb1 : w.heap.size + 1 < b) (x0 x1 x2 x3 : Value) :
    SS w ((((W.setCell ⟨b, 0, none⟩ x0).setCell ⟨b, 1, none⟩ x1).setCell ⟨b, 2, none⟩ x2).setCell ⟨b, 3, none⟩ x3) rd fi li (.slice (some ⟨g, o, none⟩) n c) l :=
  sc_of ((((h.set (i := 0) (u := x0) hb hb1).set (i := 1) (u := x1) hb hb1).set (i := 2) (u := x2) hb hb1).set (i := 3) (u := x3) hb hb1)

/-- The four cells of the variable 'out' are written. -/
theorem out_set {w W : World} {rd fi li x : Int} {g o n c b gb nb cb B : Nat} {l lb : List Pc} (h : Cur w W rd fi li (.slice (some ⟨g, o, none⟩) n c) l) (hb : b ≠ g) (hb1 : w.heap.size + 1 < b)
    (FZ : Frm W b [.int .i64 0, .slice none 0 0, .int .i64 0, .int .i64 0]) (O : OwnPc W B (.slice (some ⟨gb, 0, none⟩) nb cb) lb) (hgb : b ≠ gb) :
    Cur w ((((W.setCell ⟨b, 0, none⟩ (.int .i64 x)).setCell ⟨b, 1, none⟩ (.slice (some ⟨gb, 0, none⟩) nb cb)).setCell ⟨b, 2, none⟩ (.int .i64 fi)).setCell ⟨b, 3, none⟩ (.int .i64 li)) rd fi li (.slice (some ⟨g, o, none⟩) n c) l ∧
    Frm ((((W.setCell ⟨b, 0, none⟩ (.int .i64 x)).setCell ⟨b, 1, none⟩ (.slice (some ⟨gb, 0, none⟩) nb cb)).setCell ⟨b, 2, none⟩ (.int .i64 fi)).setCell ⟨b, 3, none⟩ (.int .i64 li)) b [.int .i64 x, .slice (some ⟨gb, 0, none⟩) nb cb, .int .i64 fi, .int .i64 li] ∧
    OwnPc ((((W.setCell ⟨b, 0, none⟩ (.int .i64 x)).setCell ⟨b, 1, none⟩ (.slice (some ⟨gb, 0, none⟩) nb cb)).setCell ⟨b, 2, none⟩ (.int .i64 fi)).setCell ⟨b, 3, none⟩ (.int .i64 li)) B (.slice (some ⟨gb, 0, none⟩) nb cb) lb := by
  have hne : ∀ x, (Value.slice (some ⟨gb, 0, none⟩) nb cb).ownBlock = some x → b ≠ x := fun x hx => by
    have hx' : gb = x := Option.some.inj hx
    omega
  exact ⟨(sc_store h hb hb1 _ _ _ _).2.2.2.2,
    (((FZ.set (i := 0) (by simp) (.int .i64 x)).set (i := 1) (by simp) (.slice (some ⟨gb, 0, none⟩) nb cb)).set (i := 2) (by simp) (.int .i64 fi)).set (i := 3) (by simp) (.int .i64 li),
    own_far (i := 3) (u := .int .i64 li) (own_far (i := 2) (u := .int .i64 fi) (own_far (i := 1) (u := .slice (some ⟨gb, 0, none⟩) nb cb) (own_far (i := 0) (u := .int .i64 x) O hne) hne) hne) hne⟩
/-- The same, of a variable that is laid with its cells. -/
theorem out_new {w W : World} {rd fi li x : Int} {g o n c gb nb cb B : Nat} {l lb : List Pc} (h : Cur w W rd fi li (.slice (some ⟨g, o, none⟩) n c) l) (O : OwnPc W B (.slice (some ⟨gb, 0, none⟩) nb cb) lb) :
    Cur w (W.alloc (.cells #[.int .i64 x, .slice (some ⟨gb, 0, none⟩) nb cb, .int .i64 fi, .int .i64 li] 47)) rd fi li (.slice (some ⟨g, o, none⟩) n c) l ∧
    Frm (W.alloc (.cells #[.int .i64 x, .slice (some ⟨gb, 0, none⟩) nb cb, .int .i64 fi, .int .i64 li] 47)) W.heap.size [.int .i64 x, .slice (some ⟨gb, 0, none⟩) nb cb, .int .i64 fi, .int .i64 li] ∧
    OwnPc (W.alloc (.cells #[.int .i64 x, .slice (some ⟨gb, 0, none⟩) nb cb, .int .i64 fi, .int .i64 li] 47)) B (.slice (some ⟨gb, 0, none⟩) nb cb) lb :=
  ⟨h.alloc _, Frm.new W 47 [.int .i64 x, .slice (some ⟨gb, 0, none⟩) nb cb, .int .i64 fi, .int .i64 li], O.below ((Below.refl _ _).alloc (Nat.le_refl _) _)⟩

set_option maxRecDepth 100000 in
set_option maxHeartbeats 8000000 in
theorem sread_any (v : Value) (l : List Pc) (rd fi li n : Int) (w : World) (h : Pcs w v l) (hp : RvOk rd li l) (h0 : 0 ≤ n) (h1 : n ≤ 1000) :
    Calls Try.prog 76 #[.agg #[.int .i64 rd, v, .int .i64 fi, .int .i64 li], .int .i64 n] w (RvAns w (fun y => ∃ s, y = .string s)) := by
  obtain ⟨m, rfl⟩ := Int.eq_ofNat_of_zero_le h0
  have HP := Lib.hid h
  have HO := Lib.hid hp
  obtain ⟨r0, r1, l0, l1, hpo, hl⟩ := hp
  have hpo0 : POk 0 l := fun p hpp => ⟨by have := hpo p hpp; omega, (hpo p hpp).2⟩
  have HP0 := Lib.hid hpo0
  have HPO := Lib.hid hpo
  clear hpo hpo0
  have h' := h
  obtain ⟨g, o, c, rfl, _, hc⟩ := h
  have HC := Lib.hid hc
  clear hc
  have CU := Lib.hid (Cur.start w (rd := rd) fi li h')
  clear h'
  go_enter Try.func76, Try.ntmps76
  go_wp2_with fail
  refine (sready_any _ l rd fi li _ CU.out.2.1 HPO.out r0 (by omega)).mono ?_
  rintro e w1 ⟨k, rfl, hb1, hk⟩
  have HK := Lib.hid hk
  have CU1 := Lib.hid (CU.out.below hb1)
  clear hb1 hk CU
  have q0 := CU1.out.2.2.1 0
  have q1 := CU1.out.2.2.1 1
  have q2 := CU1.out.2.2.1 2
  have q3 := CU1.out.2.2.1 3
  by_cases hkn : (k : Int) < (m : Int)
  · by_cases hk0 : k = 0
    · subst hk0
      have hb : ((0 : Int) == 0) = true := rfl
      go_wp2_with fail
      refine (scopy_any _ l rd fi li _ CU1.out.2.1 (by omega)).mono ?_
      rintro e w2 ⟨v2, rfl, hb2, ho2, hn2⟩
      have CU2 := Lib.hid (CU1.out.below hb2)
      clear hb2 q0 q1 q2 q3
      obtain ⟨g2, c2, rfl, hc2, hga, hgb⟩ := ho2.sl hn2
      obtain ⟨B2, P2, F2, Z2, T2, S2⟩ := CU2.out
      have FIN := Lib.hid (fin_cells (rd := rd) (fi := fi) (li := li) B2 Z2 ho2 CU1.out.2.2.2.2.2 hga)
      have r0 := Z2 0
      have r1 := Z2 1
      have r2 := Z2 2
      have r3 := Z2 3
      have t0 := T2 0
      have t1 := T2 1
      have t2 := T2 2
      have t3 := T2 3
      clear B2 P2 F2 Z2 T2 S2 ho2 hn2
      go_wp2_with fail
      obtain ⟨B5, F5, O5⟩ := FIN.out
      clear FIN r0 r1 r2 r3 t0 t1 t2 t3
      generalize ((((w2.setCell ⟨w.heap.size + 1, 0, none⟩ (.int .i64 (rd))).setCell ⟨w.heap.size + 1, 1, none⟩ (.slice (some ⟨g2, 0, none⟩) l.length c2)).setCell ⟨w.heap.size + 1, 2, none⟩ (.int .i64 fi)).setCell ⟨w.heap.size + 1, 3, none⟩ (.int .i64 li)) = W5 at *
      have s0 := F5 0
      have s1 := F5 1
      have s2 := F5 2
      have s3 := F5 3
      refine bodyPost_ret (v := .tuple #[.agg #[.int .i64 (rd), .slice (some ⟨g2, 0, none⟩) l.length c2, .int .i64 fi, .int .i64 li], .string ⟨#[]⟩]) ?hr rfl ?_
      case hr => rw [results_cell_tmp rfl]; go_simp
      exact ⟨rd, fi, li, _, _, _, rfl, ⟨_, rfl⟩, B5, O5, by simp, HO.out⟩
    · have hkb : ((k : Int) == 0) = false := by rw [beq_eq_false_iff_ne]; omega
      have hkc : (k == 0) = false := by rw [beq_eq_false_iff_ne]; omega
      obtain ⟨k1, k2, k3⟩ := HK.out (by omega)
      have e2 : w1.cell? ⟨g, o + 0 * 2 + 1, none⟩ = some (.string (l.getD 0 pc0).2) := pcs_at CU1.out.2.1 0 k1
      have hk1 : ((k : Int)) ≤ ((l.getD 0 pc0).2.size : Int) := by omega
      clear k2
      have hgw : g < w1.heap.size := World.block_lt_of_cell? w1 _ e2
      simp only [Nat.zero_mul, Nat.add_zero] at e2
      generalize (l.getD 0 pc0).2 = d0 at e2 hk1
      have j1 : (0 : Int) ≤ (k : Int) := by omega
      have j1b : (0 : Int) < (l.length : Int) := by omega
      have j2 : IntKind.i64.wrap (rd + (k : Int)) = rd + (k : Int) := IntWalk.i64_in _ (by omega)
      go_wp2_with fail
      have CUd : Cur w w1.drew rd fi li (.slice (some ⟨g, o, none⟩) l.length c) l := CU1.out.drew 1
      have j4 : 0 ≤ rd + (k : Int) := by omega
      have j5 : rd + (k : Int) ≤ 1000 := by omega
      have PCd : Pcs w1.drew (.slice (some ⟨g, o, none⟩) l.length c) l := CUd.2.1
      have CUe : ∀ ob, Cur w (w1.alloc ob).drew rd fi li (.slice (some ⟨g, o, none⟩) l.length c) l := fun ob => (CU1.out.alloc ob).drew 1
      have PCda : ∀ ob, Pcs (w1.alloc ob).drew (.slice (some ⟨g, o, none⟩) l.length c) l := fun ob => (CUe ob).2.1
      have kSE := fun ob => sc_of (CUe ob)
      have kS1 := sc_of CU1.out
      have kSd := sc_of CUd
      have hl6 : l.length ≤ 1000000 := by omega
      go_region_held3 (fun W => W.cell? ⟨w.heap.size, 0, none⟩ = some (.int .i64 rd) ∧ W.cell? ⟨w.heap.size, 1, none⟩ = some (.slice (some ⟨g, o, none⟩) l.length c) ∧ W.cell? ⟨w.heap.size, 2, none⟩ = some (.int .i64 fi) ∧ W.cell? ⟨w.heap.size, 3, none⟩ = some (.int .i64 li) ∧ Cur w W rd fi li (.slice (some ⟨g, o, none⟩) l.length c) l)
        ((with_reducible first | assumption | (exact kSA) | (exact kSB) | (exact kSC _) | (exact kSD _ _ _ _) | (exact kS1) | (exact kSd) | (exact kSE _) | (exact kSF _)))
        ((first
          | (go_at_call 90; (with_reducible refine (sbytes_any _ l rd fi li _ PCd HP0.out hl6).mono ?_); rintro e wa ⟨ga, rfl, hba, hra⟩; have hraA := fun ob => hra.below ((Below.refl _ _).alloc (Nat.le_refl _) ob); have CUa := CUd.below hba; have kSF := fun ob => sc_of (CUa.alloc ob); have kSA := sc_of CUa)
          | (go_at_call 90; (with_reducible refine (sbytes_any _ l rd fi li _ (PCda _) HP0.out hl6).mono ?_); rintro e wa ⟨ga, rfl, hba, hra⟩; have hraA := fun ob => hra.below ((Below.refl _ _).alloc (Nat.le_refl _) ob); have CUa := (CUe _).below hba; have kSF := fun ob => sc_of (CUa.alloc ob); have kSA := sc_of CUa; have FY : Frm wa w1.heap.size [.int .i64 0, .slice none 0 0, .int .i64 0, .int .i64 0] := Frm.below (show Frm (w1.alloc (.cells #[.int .i64 0, .slice none 0 0, .int .i64 0, .int .i64 0] 47)).drew w1.heap.size [.int .i64 0, .slice none 0 0, .int .i64 0, .int .i64 0] from Frm.new w1 47 [.int .i64 0, .slice none 0 0, .int .i64 0, .int .i64 0]) hba (by simp); have TY : Thaw wa w1.heap.size := Thaw.below (show Thaw (w1.alloc (.cells #[.int .i64 0, .slice none 0 0, .int .i64 0, .int .i64 0] 47)).drew w1.heap.size from Thaw.new w1 47 [.int .i64 0, .slice none 0 0, .int .i64 0, .int .i64 0]) hba (by simp))
          | (go_at_call 91; (with_reducible refine (spieces_int ga _ _ _ (hraA _) j4 j5).mono ?_); rintro e wb ⟨vb, lb, rfl, hbb, hob, hpb, hlb, hnb⟩; obtain ⟨gb, cb, rfl, hcb, hgb1, hgb2⟩ := hob.sl hnb; have CUb := (CUa.alloc _).below hbb; have kSB := sc_of CUb; have FZ := Frm.below (Frm.new wa 47 [.int .i64 0, .slice none 0 0, .int .i64 0, .int .i64 0]) hbb (by simp); have TZ := Thaw.below (Thaw.new wa 47 [.int .i64 0, .slice none 0 0, .int .i64 0, .int .i64 0]) hbb (by simp); have z0 := FZ 0; have z1 := FZ 1; have z2 := FZ 2; have z3 := FZ 3; have y0 := TZ 0; have y1 := TZ 1; have y2 := TZ 2; have y3 := TZ 3; have kSD := sc_store CUb (b := wa.heap.size) (by have := hba.size; simp at this; omega) (by have := hba.size; have := CU1.out.2.2.2.2.2; simp at *; omega))
          | (go_at_call 91; (with_reducible refine (spieces_int ga _ _ _ hra j4 j5).mono ?_); rintro e wb ⟨vb, lb, rfl, hbb, hob, hpb, hlb, hnb⟩; obtain ⟨gb, cb, rfl, hcb, hgb1, hgb2⟩ := hob.sl hnb; have CUb := CUa.below hbb; have kSB := sc_of CUb; have hws : w1.heap.size < wa.heap.size := (by have := hba.size; simp at this; omega); have FZ := Frm.below FY hbb hws; have TZ := Thaw.below TY hbb hws; have z0 := FZ 0; have z1 := FZ 1; have z2 := FZ 2; have z3 := FZ 3; have y0 := TZ 0; have y1 := TZ 1; have y2 := TZ 2; have y3 := TZ 3; have kSD := sc_store CUb (b := w1.heap.size) (by omega) CU1.out.2.2.2.2.2)
          | (go_at_call 91; (with_reducible refine (spieces_int ga _ _ _ hra j4 j5).mono ?_); rintro e wb ⟨vb, lb, rfl, hbb, hob, hpb, hlb, hnb⟩; obtain ⟨gb, cb, rfl, hcb, hgb1, hgb2⟩ := hob.sl hnb; have CUb := CUa.below hbb; have kSB := sc_of CUb; have kSC := fun o => sc_of (CUb.alloc o))))
      · have OUT := Lib.hid (out_new (x := rd + (k : Int)) CUb hob)
        have hwa : w.heap.size + 1 < wa.heap.size := CUa.2.2.2.2.2
        clear CUa CUb kSA kSB
        clear CUd CUe PCd PCda kSE kS1 kSd kSF
        generalize hW5 : (wb.alloc (.cells #[.int .i64 (rd + (k : Int)), .slice (some ⟨gb, 0, none⟩) lb.length cb, .int .i64 fi, .int .i64 li] 47)) = W5 at *
        clear hW5
        obtain ⟨CO, FO, OO⟩ := OUT.out
        obtain ⟨B2, P2, F2, Z2, T2, S2⟩ := CO
        have FIN := Lib.hid (fin_cells (rd := rd + (k : Int)) (fi := fi) (li := li) B2 Z2 OO (by first | omega | (simp; omega)) hgb1)
        have o0 := FO 0
        have o1 := FO 1
        have o2 := FO 2
        have o3 := FO 3
        have r0 := Z2 0
        have r1 := Z2 1
        have r2 := Z2 2
        have r3 := Z2 3
        have t0 := T2 0
        have t1 := T2 1
        have t2 := T2 2
        have t3 := T2 3
        clear B2 P2 F2 Z2 T2 S2 OO FO
        go_wp2_with fail
        obtain ⟨B5, F5, O5⟩ := FIN.out
        clear FIN r0 r1 r2 r3 t0 t1 t2 t3 o0 o1 o2 o3
        generalize ((((W5.setCell ⟨w.heap.size + 1, 0, none⟩ (.int .i64 (rd + (k : Int)))).setCell ⟨w.heap.size + 1, 1, none⟩ (.slice (some ⟨gb, 0, none⟩) lb.length cb)).setCell ⟨w.heap.size + 1, 2, none⟩ (.int .i64 fi)).setCell ⟨w.heap.size + 1, 3, none⟩ (.int .i64 li)) = W6 at *
        have s0 := F5 0
        have s1 := F5 1
        have s2 := F5 2
        have s3 := F5 3
        refine bodyPost_ret (v := .tuple #[.agg #[.int .i64 (rd + (k : Int)), .slice (some ⟨gb, 0, none⟩) lb.length cb, .int .i64 fi, .int .i64 li], .string (d0.extract 0 k)]) ?hr rfl ?_
        case hr => rw [results_cell_tmp rfl]; go_simp
        exact ⟨rd + (k : Int), fi, li, _, _, lb, rfl, ⟨_, rfl⟩, B5, O5, by simp, ⟨j4, by omega, HO.out.2.2.1, HO.out.2.2.2.1, hpb, hlb⟩⟩
      · have OUT := Lib.hid (out_set (x := rd + (k : Int)) CUb (b := wa.heap.size) (by have := hba.size; simp at this; omega) (by have := hba.size; have := CU1.out.2.2.2.2.2; simp at *; omega) FZ hob (by have := hgb1; simp at this; omega))
        have hwa : w.heap.size + 1 < wa.heap.size := CUa.2.2.2.2.2
        clear CUa CUb kSA kSB
        clear CUd CUe PCd PCda kSE kS1 kSd kSF
        generalize hW5 : ((((wb.setCell ⟨wa.heap.size, 0, none⟩ (.int .i64 (rd + (k : Int)))).setCell ⟨wa.heap.size, 1, none⟩ (.slice (some ⟨gb, 0, none⟩) lb.length cb)).setCell ⟨wa.heap.size, 2, none⟩ (.int .i64 fi)).setCell ⟨wa.heap.size, 3, none⟩ (.int .i64 li)) = W5 at *
        clear hW5
        obtain ⟨CO, FO, OO⟩ := OUT.out
        obtain ⟨B2, P2, F2, Z2, T2, S2⟩ := CO
        have FIN := Lib.hid (fin_cells (rd := rd + (k : Int)) (fi := fi) (li := li) B2 Z2 OO (by first | omega | (simp; omega)) hgb1)
        have o0 := FO 0
        have o1 := FO 1
        have o2 := FO 2
        have o3 := FO 3
        have r0 := Z2 0
        have r1 := Z2 1
        have r2 := Z2 2
        have r3 := Z2 3
        have t0 := T2 0
        have t1 := T2 1
        have t2 := T2 2
        have t3 := T2 3
        clear B2 P2 F2 Z2 T2 S2 OO FO
        go_wp2_with fail
        obtain ⟨B5, F5, O5⟩ := FIN.out
        clear FIN r0 r1 r2 r3 t0 t1 t2 t3 o0 o1 o2 o3
        generalize ((((W5.setCell ⟨w.heap.size + 1, 0, none⟩ (.int .i64 (rd + (k : Int)))).setCell ⟨w.heap.size + 1, 1, none⟩ (.slice (some ⟨gb, 0, none⟩) lb.length cb)).setCell ⟨w.heap.size + 1, 2, none⟩ (.int .i64 fi)).setCell ⟨w.heap.size + 1, 3, none⟩ (.int .i64 li)) = W6 at *
        have s0 := F5 0
        have s1 := F5 1
        have s2 := F5 2
        have s3 := F5 3
        refine bodyPost_ret (v := .tuple #[.agg #[.int .i64 (rd + (k : Int)), .slice (some ⟨gb, 0, none⟩) lb.length cb, .int .i64 fi, .int .i64 li], .string (d0.extract 0 k)]) ?hr rfl ?_
        case hr => rw [results_cell_tmp rfl]; go_simp
        exact ⟨rd + (k : Int), fi, li, _, _, lb, rfl, ⟨_, rfl⟩, B5, O5, by simp, ⟨j4, by omega, HO.out.2.2.1, HO.out.2.2.2.1, hpb, hlb⟩⟩
      · have OUT := Lib.hid (out_set (x := rd + (k : Int)) CUb (b := w1.heap.size) (by omega) CU1.out.2.2.2.2.2 FZ hob (by have := hgb1; omega))
        have hwa : w.heap.size + 1 < wa.heap.size := CUa.2.2.2.2.2
        clear CUa CUb kSA kSB
        clear CUd CUe PCd PCda kSE kS1 kSd kSF
        generalize hW5 : ((((wb.setCell ⟨w1.heap.size, 0, none⟩ (.int .i64 (rd + (k : Int)))).setCell ⟨w1.heap.size, 1, none⟩ (.slice (some ⟨gb, 0, none⟩) lb.length cb)).setCell ⟨w1.heap.size, 2, none⟩ (.int .i64 fi)).setCell ⟨w1.heap.size, 3, none⟩ (.int .i64 li)) = W5 at *
        clear hW5
        obtain ⟨CO, FO, OO⟩ := OUT.out
        obtain ⟨B2, P2, F2, Z2, T2, S2⟩ := CO
        have FIN := Lib.hid (fin_cells (rd := rd + (k : Int)) (fi := fi) (li := li) B2 Z2 OO (by first | omega | (simp; omega)) hgb1)
        have o0 := FO 0
        have o1 := FO 1
        have o2 := FO 2
        have o3 := FO 3
        have r0 := Z2 0
        have r1 := Z2 1
        have r2 := Z2 2
        have r3 := Z2 3
        have t0 := T2 0
        have t1 := T2 1
        have t2 := T2 2
        have t3 := T2 3
        clear B2 P2 F2 Z2 T2 S2 OO FO
        go_wp2_with fail
        obtain ⟨B5, F5, O5⟩ := FIN.out
        clear FIN r0 r1 r2 r3 t0 t1 t2 t3 o0 o1 o2 o3
        generalize ((((W5.setCell ⟨w.heap.size + 1, 0, none⟩ (.int .i64 (rd + (k : Int)))).setCell ⟨w.heap.size + 1, 1, none⟩ (.slice (some ⟨gb, 0, none⟩) lb.length cb)).setCell ⟨w.heap.size + 1, 2, none⟩ (.int .i64 fi)).setCell ⟨w.heap.size + 1, 3, none⟩ (.int .i64 li)) = W6 at *
        have s0 := F5 0
        have s1 := F5 1
        have s2 := F5 2
        have s3 := F5 3
        refine bodyPost_ret (v := .tuple #[.agg #[.int .i64 (rd + (k : Int)), .slice (some ⟨gb, 0, none⟩) lb.length cb, .int .i64 fi, .int .i64 li], .string (d0.extract 0 k)]) ?hr rfl ?_
        case hr => rw [results_cell_tmp rfl]; go_simp
        exact ⟨rd + (k : Int), fi, li, _, _, lb, rfl, ⟨_, rfl⟩, B5, O5, by simp, ⟨j4, by omega, HO.out.2.2.1, HO.out.2.2.2.1, hpb, hlb⟩⟩
  · by_cases hk0 : m = 0
    · subst hk0
      have hb : ((0 : Int) == 0) = true := rfl
      go_wp2_with fail
      refine (scopy_any _ l rd fi li _ CU1.out.2.1 (by omega)).mono ?_
      rintro e w2 ⟨v2, rfl, hb2, ho2, hn2⟩
      have CU2 := Lib.hid (CU1.out.below hb2)
      clear hb2 q0 q1 q2 q3
      obtain ⟨g2, c2, rfl, hc2, hga, hgb⟩ := ho2.sl hn2
      obtain ⟨B2, P2, F2, Z2, T2, S2⟩ := CU2.out
      have FIN := Lib.hid (fin_cells (rd := rd) (fi := fi) (li := li) B2 Z2 ho2 CU1.out.2.2.2.2.2 hga)
      have r0 := Z2 0
      have r1 := Z2 1
      have r2 := Z2 2
      have r3 := Z2 3
      have t0 := T2 0
      have t1 := T2 1
      have t2 := T2 2
      have t3 := T2 3
      clear B2 P2 F2 Z2 T2 S2 ho2 hn2
      go_wp2_with fail
      obtain ⟨B5, F5, O5⟩ := FIN.out
      clear FIN r0 r1 r2 r3 t0 t1 t2 t3
      generalize ((((w2.setCell ⟨w.heap.size + 1, 0, none⟩ (.int .i64 (rd))).setCell ⟨w.heap.size + 1, 1, none⟩ (.slice (some ⟨g2, 0, none⟩) l.length c2)).setCell ⟨w.heap.size + 1, 2, none⟩ (.int .i64 fi)).setCell ⟨w.heap.size + 1, 3, none⟩ (.int .i64 li)) = W5 at *
      have s0 := F5 0
      have s1 := F5 1
      have s2 := F5 2
      have s3 := F5 3
      refine bodyPost_ret (v := .tuple #[.agg #[.int .i64 (rd), .slice (some ⟨g2, 0, none⟩) l.length c2, .int .i64 fi, .int .i64 li], .string ⟨#[]⟩]) ?hr rfl ?_
      case hr => rw [results_cell_tmp rfl]; go_simp
      exact ⟨rd, fi, li, _, _, _, rfl, ⟨_, rfl⟩, B5, O5, by simp, HO.out⟩
    · have hkb : ((m : Int) == 0) = false := by rw [beq_eq_false_iff_ne]; omega
      have hkc : (m == 0) = false := by rw [beq_eq_false_iff_ne]; omega
      obtain ⟨k1, k2, k3⟩ := HK.out (by omega)
      have e2 : w1.cell? ⟨g, o + 0 * 2 + 1, none⟩ = some (.string (l.getD 0 pc0).2) := pcs_at CU1.out.2.1 0 k1
      have hk1 : ((m : Int)) ≤ ((l.getD 0 pc0).2.size : Int) := by omega
      clear k2
      have hgw : g < w1.heap.size := World.block_lt_of_cell? w1 _ e2
      simp only [Nat.zero_mul, Nat.add_zero] at e2
      generalize (l.getD 0 pc0).2 = d0 at e2 hk1
      have j1 : (0 : Int) ≤ (m : Int) := by omega
      have j1b : (0 : Int) < (l.length : Int) := by omega
      have j2 : IntKind.i64.wrap (rd + (m : Int)) = rd + (m : Int) := IntWalk.i64_in _ (by omega)
      go_wp2_with fail
      have CUd : Cur w w1.drew rd fi li (.slice (some ⟨g, o, none⟩) l.length c) l := CU1.out.drew 1
      have j4 : 0 ≤ rd + (m : Int) := by omega
      have j5 : rd + (m : Int) ≤ 1000 := by omega
      have PCd : Pcs w1.drew (.slice (some ⟨g, o, none⟩) l.length c) l := CUd.2.1
      have CUe : ∀ ob, Cur w (w1.alloc ob).drew rd fi li (.slice (some ⟨g, o, none⟩) l.length c) l := fun ob => (CU1.out.alloc ob).drew 1
      have PCda : ∀ ob, Pcs (w1.alloc ob).drew (.slice (some ⟨g, o, none⟩) l.length c) l := fun ob => (CUe ob).2.1
      have kSE := fun ob => sc_of (CUe ob)
      have kS1 := sc_of CU1.out
      have kSd := sc_of CUd
      have hl6 : l.length ≤ 1000000 := by omega
      go_region_held3 (fun W => W.cell? ⟨w.heap.size, 0, none⟩ = some (.int .i64 rd) ∧ W.cell? ⟨w.heap.size, 1, none⟩ = some (.slice (some ⟨g, o, none⟩) l.length c) ∧ W.cell? ⟨w.heap.size, 2, none⟩ = some (.int .i64 fi) ∧ W.cell? ⟨w.heap.size, 3, none⟩ = some (.int .i64 li) ∧ Cur w W rd fi li (.slice (some ⟨g, o, none⟩) l.length c) l)
        ((with_reducible first | assumption | (exact kSA) | (exact kSB) | (exact kSC _) | (exact kSD _ _ _ _) | (exact kS1) | (exact kSd) | (exact kSE _) | (exact kSF _)))
        ((first
          | (go_at_call 90; (with_reducible refine (sbytes_any _ l rd fi li _ PCd HP0.out hl6).mono ?_); rintro e wa ⟨ga, rfl, hba, hra⟩; have hraA := fun ob => hra.below ((Below.refl _ _).alloc (Nat.le_refl _) ob); have CUa := CUd.below hba; have kSF := fun ob => sc_of (CUa.alloc ob); have kSA := sc_of CUa)
          | (go_at_call 90; (with_reducible refine (sbytes_any _ l rd fi li _ (PCda _) HP0.out hl6).mono ?_); rintro e wa ⟨ga, rfl, hba, hra⟩; have hraA := fun ob => hra.below ((Below.refl _ _).alloc (Nat.le_refl _) ob); have CUa := (CUe _).below hba; have kSF := fun ob => sc_of (CUa.alloc ob); have kSA := sc_of CUa; have FY : Frm wa w1.heap.size [.int .i64 0, .slice none 0 0, .int .i64 0, .int .i64 0] := Frm.below (show Frm (w1.alloc (.cells #[.int .i64 0, .slice none 0 0, .int .i64 0, .int .i64 0] 47)).drew w1.heap.size [.int .i64 0, .slice none 0 0, .int .i64 0, .int .i64 0] from Frm.new w1 47 [.int .i64 0, .slice none 0 0, .int .i64 0, .int .i64 0]) hba (by simp); have TY : Thaw wa w1.heap.size := Thaw.below (show Thaw (w1.alloc (.cells #[.int .i64 0, .slice none 0 0, .int .i64 0, .int .i64 0] 47)).drew w1.heap.size from Thaw.new w1 47 [.int .i64 0, .slice none 0 0, .int .i64 0, .int .i64 0]) hba (by simp))
          | (go_at_call 91; (with_reducible refine (spieces_int ga _ _ _ (hraA _) j4 j5).mono ?_); rintro e wb ⟨vb, lb, rfl, hbb, hob, hpb, hlb, hnb⟩; obtain ⟨gb, cb, rfl, hcb, hgb1, hgb2⟩ := hob.sl hnb; have CUb := (CUa.alloc _).below hbb; have kSB := sc_of CUb; have FZ := Frm.below (Frm.new wa 47 [.int .i64 0, .slice none 0 0, .int .i64 0, .int .i64 0]) hbb (by simp); have TZ := Thaw.below (Thaw.new wa 47 [.int .i64 0, .slice none 0 0, .int .i64 0, .int .i64 0]) hbb (by simp); have z0 := FZ 0; have z1 := FZ 1; have z2 := FZ 2; have z3 := FZ 3; have y0 := TZ 0; have y1 := TZ 1; have y2 := TZ 2; have y3 := TZ 3; have kSD := sc_store CUb (b := wa.heap.size) (by have := hba.size; simp at this; omega) (by have := hba.size; have := CU1.out.2.2.2.2.2; simp at *; omega))
          | (go_at_call 91; (with_reducible refine (spieces_int ga _ _ _ hra j4 j5).mono ?_); rintro e wb ⟨vb, lb, rfl, hbb, hob, hpb, hlb, hnb⟩; obtain ⟨gb, cb, rfl, hcb, hgb1, hgb2⟩ := hob.sl hnb; have CUb := CUa.below hbb; have kSB := sc_of CUb; have hws : w1.heap.size < wa.heap.size := (by have := hba.size; simp at this; omega); have FZ := Frm.below FY hbb hws; have TZ := Thaw.below TY hbb hws; have z0 := FZ 0; have z1 := FZ 1; have z2 := FZ 2; have z3 := FZ 3; have y0 := TZ 0; have y1 := TZ 1; have y2 := TZ 2; have y3 := TZ 3; have kSD := sc_store CUb (b := w1.heap.size) (by omega) CU1.out.2.2.2.2.2)
          | (go_at_call 91; (with_reducible refine (spieces_int ga _ _ _ hra j4 j5).mono ?_); rintro e wb ⟨vb, lb, rfl, hbb, hob, hpb, hlb, hnb⟩; obtain ⟨gb, cb, rfl, hcb, hgb1, hgb2⟩ := hob.sl hnb; have CUb := CUa.below hbb; have kSB := sc_of CUb; have kSC := fun o => sc_of (CUb.alloc o))))
      · have OUT := Lib.hid (out_new (x := rd + (m : Int)) CUb hob)
        have hwa : w.heap.size + 1 < wa.heap.size := CUa.2.2.2.2.2
        clear CUa CUb kSA kSB
        clear CUd CUe PCd PCda kSE kS1 kSd kSF
        generalize hW5 : (wb.alloc (.cells #[.int .i64 (rd + (m : Int)), .slice (some ⟨gb, 0, none⟩) lb.length cb, .int .i64 fi, .int .i64 li] 47)) = W5 at *
        clear hW5
        obtain ⟨CO, FO, OO⟩ := OUT.out
        obtain ⟨B2, P2, F2, Z2, T2, S2⟩ := CO
        have FIN := Lib.hid (fin_cells (rd := rd + (m : Int)) (fi := fi) (li := li) B2 Z2 OO (by first | omega | (simp; omega)) hgb1)
        have o0 := FO 0
        have o1 := FO 1
        have o2 := FO 2
        have o3 := FO 3
        have r0 := Z2 0
        have r1 := Z2 1
        have r2 := Z2 2
        have r3 := Z2 3
        have t0 := T2 0
        have t1 := T2 1
        have t2 := T2 2
        have t3 := T2 3
        clear B2 P2 F2 Z2 T2 S2 OO FO
        go_wp2_with fail
        obtain ⟨B5, F5, O5⟩ := FIN.out
        clear FIN r0 r1 r2 r3 t0 t1 t2 t3 o0 o1 o2 o3
        generalize ((((W5.setCell ⟨w.heap.size + 1, 0, none⟩ (.int .i64 (rd + (m : Int)))).setCell ⟨w.heap.size + 1, 1, none⟩ (.slice (some ⟨gb, 0, none⟩) lb.length cb)).setCell ⟨w.heap.size + 1, 2, none⟩ (.int .i64 fi)).setCell ⟨w.heap.size + 1, 3, none⟩ (.int .i64 li)) = W6 at *
        have s0 := F5 0
        have s1 := F5 1
        have s2 := F5 2
        have s3 := F5 3
        refine bodyPost_ret (v := .tuple #[.agg #[.int .i64 (rd + (m : Int)), .slice (some ⟨gb, 0, none⟩) lb.length cb, .int .i64 fi, .int .i64 li], .string (d0.extract 0 m)]) ?hr rfl ?_
        case hr => rw [results_cell_tmp rfl]; go_simp
        exact ⟨rd + (m : Int), fi, li, _, _, lb, rfl, ⟨_, rfl⟩, B5, O5, by simp, ⟨j4, by omega, HO.out.2.2.1, HO.out.2.2.2.1, hpb, hlb⟩⟩
      · have OUT := Lib.hid (out_set (x := rd + (m : Int)) CUb (b := wa.heap.size) (by have := hba.size; simp at this; omega) (by have := hba.size; have := CU1.out.2.2.2.2.2; simp at *; omega) FZ hob (by have := hgb1; simp at this; omega))
        have hwa : w.heap.size + 1 < wa.heap.size := CUa.2.2.2.2.2
        clear CUa CUb kSA kSB
        clear CUd CUe PCd PCda kSE kS1 kSd kSF
        generalize hW5 : ((((wb.setCell ⟨wa.heap.size, 0, none⟩ (.int .i64 (rd + (m : Int)))).setCell ⟨wa.heap.size, 1, none⟩ (.slice (some ⟨gb, 0, none⟩) lb.length cb)).setCell ⟨wa.heap.size, 2, none⟩ (.int .i64 fi)).setCell ⟨wa.heap.size, 3, none⟩ (.int .i64 li)) = W5 at *
        clear hW5
        obtain ⟨CO, FO, OO⟩ := OUT.out
        obtain ⟨B2, P2, F2, Z2, T2, S2⟩ := CO
        have FIN := Lib.hid (fin_cells (rd := rd + (m : Int)) (fi := fi) (li := li) B2 Z2 OO (by first | omega | (simp; omega)) hgb1)
        have o0 := FO 0
        have o1 := FO 1
        have o2 := FO 2
        have o3 := FO 3
        have r0 := Z2 0
        have r1 := Z2 1
        have r2 := Z2 2
        have r3 := Z2 3
        have t0 := T2 0
        have t1 := T2 1
        have t2 := T2 2
        have t3 := T2 3
        clear B2 P2 F2 Z2 T2 S2 OO FO
        go_wp2_with fail
        obtain ⟨B5, F5, O5⟩ := FIN.out
        clear FIN r0 r1 r2 r3 t0 t1 t2 t3 o0 o1 o2 o3
        generalize ((((W5.setCell ⟨w.heap.size + 1, 0, none⟩ (.int .i64 (rd + (m : Int)))).setCell ⟨w.heap.size + 1, 1, none⟩ (.slice (some ⟨gb, 0, none⟩) lb.length cb)).setCell ⟨w.heap.size + 1, 2, none⟩ (.int .i64 fi)).setCell ⟨w.heap.size + 1, 3, none⟩ (.int .i64 li)) = W6 at *
        have s0 := F5 0
        have s1 := F5 1
        have s2 := F5 2
        have s3 := F5 3
        refine bodyPost_ret (v := .tuple #[.agg #[.int .i64 (rd + (m : Int)), .slice (some ⟨gb, 0, none⟩) lb.length cb, .int .i64 fi, .int .i64 li], .string (d0.extract 0 m)]) ?hr rfl ?_
        case hr => rw [results_cell_tmp rfl]; go_simp
        exact ⟨rd + (m : Int), fi, li, _, _, lb, rfl, ⟨_, rfl⟩, B5, O5, by simp, ⟨j4, by omega, HO.out.2.2.1, HO.out.2.2.2.1, hpb, hlb⟩⟩
      · have OUT := Lib.hid (out_set (x := rd + (m : Int)) CUb (b := w1.heap.size) (by omega) CU1.out.2.2.2.2.2 FZ hob (by have := hgb1; omega))
        have hwa : w.heap.size + 1 < wa.heap.size := CUa.2.2.2.2.2
        clear CUa CUb kSA kSB
        clear CUd CUe PCd PCda kSE kS1 kSd kSF
        generalize hW5 : ((((wb.setCell ⟨w1.heap.size, 0, none⟩ (.int .i64 (rd + (m : Int)))).setCell ⟨w1.heap.size, 1, none⟩ (.slice (some ⟨gb, 0, none⟩) lb.length cb)).setCell ⟨w1.heap.size, 2, none⟩ (.int .i64 fi)).setCell ⟨w1.heap.size, 3, none⟩ (.int .i64 li)) = W5 at *
        clear hW5
        obtain ⟨CO, FO, OO⟩ := OUT.out
        obtain ⟨B2, P2, F2, Z2, T2, S2⟩ := CO
        have FIN := Lib.hid (fin_cells (rd := rd + (m : Int)) (fi := fi) (li := li) B2 Z2 OO (by first | omega | (simp; omega)) hgb1)
        have o0 := FO 0
        have o1 := FO 1
        have o2 := FO 2
        have o3 := FO 3
        have r0 := Z2 0
        have r1 := Z2 1
        have r2 := Z2 2
        have r3 := Z2 3
        have t0 := T2 0
        have t1 := T2 1
        have t2 := T2 2
        have t3 := T2 3
        clear B2 P2 F2 Z2 T2 S2 OO FO
        go_wp2_with fail
        obtain ⟨B5, F5, O5⟩ := FIN.out
        clear FIN r0 r1 r2 r3 t0 t1 t2 t3 o0 o1 o2 o3
        generalize ((((W5.setCell ⟨w.heap.size + 1, 0, none⟩ (.int .i64 (rd + (m : Int)))).setCell ⟨w.heap.size + 1, 1, none⟩ (.slice (some ⟨gb, 0, none⟩) lb.length cb)).setCell ⟨w.heap.size + 1, 2, none⟩ (.int .i64 fi)).setCell ⟨w.heap.size + 1, 3, none⟩ (.int .i64 li)) = W6 at *
        have s0 := F5 0
        have s1 := F5 1
        have s2 := F5 2
        have s3 := F5 3
        refine bodyPost_ret (v := .tuple #[.agg #[.int .i64 (rd + (m : Int)), .slice (some ⟨gb, 0, none⟩) lb.length cb, .int .i64 fi, .int .i64 li], .string (d0.extract 0 m)]) ?hr rfl ?_
        case hr => rw [results_cell_tmp rfl]; go_simp
        exact ⟨rd + (m : Int), fi, li, _, _, lb, rfl, ⟨_, rfl⟩, B5, O5, by simp, ⟨j4, by omega, HO.out.2.2.1, HO.out.2.2.2.1, hpb, hlb⟩⟩

end Go.Proofs.Ytifohfclgonhfaa
