/- Chapter 31, the program's intervals: join. -/
import Derived.Test.YthdhjjbgegcncaaIvB
import Derived.Test.YthdhjjbgegcncaaIvD
import Derived.Deep.RegionHeld3
import Derived.Deep.RegionLaw
import Derived.Deep.CutBlock
namespace Go.Proofs.Ythdhjjbgegcncaa
open Go.RowKit
set_option linter.unusedVariables false
set_option linter.unusedSimpArgs false

theorem cut_le (q : Qc) (off : Int) {n : Nat} (h : q.2.size ≤ n) : (cut q off).2.size ≤ n := by rw [cutq_size]; omega
set_option maxRecDepth 100000 in
theorem field1 : ∀ (a b : Value) (W : World), (Instr.field 55 (.agg #[a, b]) 1).run Try.prog W = .ok b W := fun a b W => by rfl
/-- Where join stands: both intervals in their boxes, the result's block. -/
structure J3 (w W : World) (p1 p2 q1 q2 : Value) : Prop where
  bel : Below w.heap.size w W
  p : Frm W w.heap.size [p1, p2]
  q : Frm W (w.heap.size + 1) [q1, q2]
  r : Frm W (w.heap.size + 1 + 1) [.int .i64 0, .slice none 0 0]
  t : Thaw W (w.heap.size + 1 + 1)
  typ : ∃ C m, W.heap[w.heap.size + 1 + 1]? = some (.cells C 55 m)
theorem J3.hi {w W : World} {p1 p2 q1 q2 : Value} (h : J3 w W p1 p2 q1 q2) : w.heap.size + 1 + 1 < W.heap.size := by
  obtain ⟨C, m, h⟩ := h.typ
  exact heap_lt h
theorem J3.below {w W W' : World} {p1 p2 q1 q2 : Value} (h : J3 w W p1 p2 q1 q2) (hb : Below W.heap.size W W') : J3 w W' p1 p2 q1 q2 where
  bel := h.bel.trans (hb.mono h.bel.size)
  p := h.p.below hb (by have := h.hi; omega)
  q := h.q.below hb (by have := h.hi; omega)
  r := h.r.below hb h.hi
  t := h.t.below hb h.hi
  typ := by
    obtain ⟨C, m, k⟩ := h.typ
    exact ⟨C, m, (hb.block _ h.hi).trans k⟩
theorem J3.alloc {w W : World} {p1 p2 q1 q2 : Value} (h : J3 w W p1 p2 q1 q2) (o : Obj) : J3 w (W.alloc o) p1 p2 q1 q2 := h.below ((Below.refl _ _).alloc (Nat.le_refl _) o)
theorem J3.drew {w W : World} {p1 p2 q1 q2 : Value} (h : J3 w W p1 p2 q1 q2) : J3 w W.drew p1 p2 q1 q2 := h.below (Below.refl _ _).drew
theorem J3.start (w : World) (p1 p2 q1 q2 : Value) : J3 w (((w.alloc (.cells #[p1, p2] 55)).alloc (.cells #[q1, q2] 55)).alloc (.cells #[.int .i64 0, .slice none 0 0] 55)) p1 p2 q1 q2 where
  bel := (((Below.refl _ _).alloc (Nat.le_refl _) _).alloc (by simp) _).alloc (by simp; omega) _
  p := ((Frm.new w 55 [p1, p2]).below ((Below.refl (w.heap.size + 1) _).alloc (by simp) _) (by omega)).below ((Below.refl (w.heap.size + 1) _).alloc (by simp) _) (by omega)
  q := by
    have := (Frm.new (w.alloc (.cells #[p1, p2] 55)) 55 [q1, q2]).below ((Below.refl (w.heap.size + 1 + 1) _).alloc (by simp) (.cells #[.int .i64 0, .slice none 0 0] 55)) (by simp)
    intro i
    simpa using this i
  r := fun i => by
    have := Frm.new ((w.alloc (.cells #[p1, p2] 55)).alloc (.cells #[q1, q2] 55)) 55 [.int .i64 0, .slice none 0 0] i
    simpa using this
  t := fun i => by
    have := Thaw.new ((w.alloc (.cells #[p1, p2] 55)).alloc (.cells #[q1, q2] 55)) 55 [.int .i64 0, .slice none 0 0] i
    simpa using this
  typ := ⟨_, _, by
    have := heap_alloc_new ((w.alloc (.cells #[p1, p2] 55)).alloc (.cells #[q1, q2] 55)) (.cells #[.int .i64 0, .slice none 0 0] 55)
    simpa using this⟩
theorem J3.sc {w W : World} {p1 p2 q1 q2 : Value} (h : J3 w W p1 p2 q1 q2) : W.cell? ⟨w.heap.size, 0, none⟩ = some p1 ∧ W.cell? ⟨w.heap.size, 1, none⟩ = some p2 ∧ W.cell? ⟨w.heap.size + 1, 0, none⟩ = some q1 ∧ W.cell? ⟨w.heap.size + 1, 1, none⟩ = some q2 := ⟨h.p 0, h.p 1, h.q 0, h.q 1⟩
theorem J3.sc2 {w W : World} {p1 p2 q1 q2 : Value} (h : J3 w W p1 p2 q1 q2) (x u : Value) : ((W.setCell ⟨w.heap.size + 1 + 1, 0, none⟩ x).setCell ⟨w.heap.size + 1 + 1, 1, none⟩ u).cell? ⟨w.heap.size, 0, none⟩ = some p1 ∧ ((W.setCell ⟨w.heap.size + 1 + 1, 0, none⟩ x).setCell ⟨w.heap.size + 1 + 1, 1, none⟩ u).cell? ⟨w.heap.size, 1, none⟩ = some p2 ∧ ((W.setCell ⟨w.heap.size + 1 + 1, 0, none⟩ x).setCell ⟨w.heap.size + 1 + 1, 1, none⟩ u).cell? ⟨w.heap.size + 1, 0, none⟩ = some q1 ∧ ((W.setCell ⟨w.heap.size + 1 + 1, 0, none⟩ x).setCell ⟨w.heap.size + 1 + 1, 1, none⟩ u).cell? ⟨w.heap.size + 1, 1, none⟩ = some q2 :=
  ⟨((h.p.far (by omega) x).far (by omega) u) 0, ((h.p.far (by omega) x).far (by omega) u) 1, ((h.q.far (by omega) x).far (by omega) u) 0, ((h.q.far (by omega) x).far (by omega) u) 1⟩
/-- The result is stored. -/
theorem J3.fin {w W : World} {p1 p2 q1 q2 x u : Value} {d : ByteArray} (h : J3 w W p1 p2 q1 q2) (hb : Byt W u d) :
    Below w.heap.size w ((W.setCell ⟨w.heap.size + 1 + 1, 0, none⟩ x).setCell ⟨w.heap.size + 1 + 1, 1, none⟩ u) ∧ Frm ((W.setCell ⟨w.heap.size + 1 + 1, 0, none⟩ x).setCell ⟨w.heap.size + 1 + 1, 1, none⟩ u) (w.heap.size + 1 + 1) [x, u] ∧ Byt ((W.setCell ⟨w.heap.size + 1 + 1, 0, none⟩ x).setCell ⟨w.heap.size + 1 + 1, 1, none⟩ u) u d := by
  refine ⟨(h.bel.setCell (p := ⟨w.heap.size + 1 + 1, 0, none⟩) (by show _ ≤ w.heap.size + 1 + 1; omega) x).setCell (p := ⟨w.heap.size + 1 + 1, 1, none⟩) (by show _ ≤ w.heap.size + 1 + 1; omega) u, (h.r.set (i := 0) (by simp) x).set (i := 1) (by simp) u, ?_⟩
  obtain ⟨C, m, k⟩ := h.typ
  obtain ⟨g, o, c, C', m', rfl, hc, hh, hd⟩ := hb
  have hne : g ≠ w.heap.size + 1 + 1 := fun e => by
    rw [e, k] at hh
    injection hh with hh
    injection hh with e1 e2 e3
    exact absurd e2 (by decide)
  refine ⟨g, o, c, C', m', rfl, hc, ?_, fun i hi => ?_⟩
  · rw [Below.heap_setCell _ _ _ _ (by simpa using hne), Below.heap_setCell _ _ _ _ (by simpa using hne)]; exact hh
  · rw [World.cell?_setCell_other _ _ _ _ (by intro e; injection e with e _ _; omega), World.cell?_setCell_other _ _ _ _ (by intro e; injection e with e _ _; omega)]
    exact hd i hi

theorem Byt.shape {w : World} {v : Value} {d : ByteArray} (h : Byt w v d) : ∃ g o c, v = .slice (some ⟨g, o, none⟩) d.size c ∧ d.size ≤ c := by
  obtain ⟨g, o, c, C, m, rfl, hc, _, _⟩ := h
  exact ⟨g, o, c, rfl, hc⟩
set_option maxRecDepth 100000 in
set_option maxHeartbeats 8000000 in
theorem ijoin_any (x y : Int) (u v : Value) (d e : ByteArray) (w : World) (hu : Byt w u d) (hv : Byt w v e) (h1 : 0 ≤ x ∧ x ≤ 1000000) (h2 : d.size ≤ 500000) (h3 : 0 ≤ y ∧ y ≤ 1000000) (h4 : e.size ≤ 500000) (hp : 0 < d.size) (hq : 0 < e.size) :
    Calls Try.prog 57 #[.agg #[.int .i64 x, u], .agg #[.int .i64 y, v]] w (GotIv w (join (x, d) (y, e))) := by
  have HU := Lib.hid hu
  have HV := Lib.hid hv
  obtain ⟨g, o, c, rfl, hc⟩ := hu.shape
  obtain ⟨g', o', c', rfl, hc'⟩ := hv.shape
  clear hu hv
  by_cases hs : y < x
  · obtain ⟨⟨qx, qd⟩, hqq⟩ : ∃ q, cut (x, d) (y + (e.size : Int)) = q := ⟨_, rfl⟩
    have hqd : qd.size ≤ 500000 := by have := cut_le (x, d) (y + (e.size : Int)) (n := 500000) (by show d.size ≤ 500000; omega); rwa [hqq] at this
    obtain ⟨rr, hrr⟩ : ∃ r, e ++ qd = r := ⟨_, rfl⟩
    have HJ : join (x, d) (y, e) = (y, rr) := (if_pos hs).trans (by rw [← hrr, show qd = (cut (x, d) (y + (e.size : Int))).2 by rw [hqq]]; rfl)
    rw [HJ]
    have C1 : Hid (∀ W : World, Calls Try.prog 42 #[.agg #[.int .i64 y, (.slice (some ⟨g', o', none⟩) e.size c')]] W fun f w' => f = .returned (.int .i64 (y + (e.size : Int))) ∧ Below W.heap.size W w') := Lib.hid fun W => iend_any y _ e.size c' W (by omega) (by omega)
    have C2 : Hid (∀ W : World, Below w.heap.size w W → Calls Try.prog 44 #[.agg #[.int .i64 x, (.slice (some ⟨g, o, none⟩) d.size c)], .int .i64 (y + (e.size : Int))] W fun f w' => ∃ v, f = .returned (.agg #[.int .i64 qx, v]) ∧ Below W.heap.size W w' ∧ Byt w' v qd) := Lib.hid fun W hW => by have k := ifrom_any x (y + (e.size : Int)) _ d W (HU.out.below hW) (by omega) (by omega) (by omega); rw [hqq] at k; exact k
    have C3 : Hid (∀ (W : World) (b : Nat) (vb : Value), Below w.heap.size w W → W.cell? ⟨b, 0, none⟩ = some (.slice (some ⟨g', o', none⟩) e.size c') → W.cell? ⟨b, 1, none⟩ = some vb → Byt W vb qd → Calls Try.prog 63 #[.slice (some ⟨b, 0, none⟩) 2 2] W fun f w' => ∃ v, f = .returned v ∧ Below W.heap.size W w' ∧ Byt w' v rr) := Lib.hid fun W b vb hW k0 k1 hy => by rw [← hrr]; exact concatB_any b _ vb e qd W k0 k1 (HV.out.below hW) hy (by omega) (by omega) (by omega)
    have D0 := Lib.hid (J3.start w (.int .i64 y) (.slice (some ⟨g', o', none⟩) e.size c') (.int .i64 x) (.slice (some ⟨g, o, none⟩) d.size c))
    have hfld := field1
    clear hqq hrr HJ
    go_enter Try.func57, Try.ntmps57
    go_upto_region 3 with fail
    generalize ((w.alloc (.cells #[.int .i64 y, (.slice (some ⟨g', o', none⟩) e.size c')] 55)).alloc (.cells #[.int .i64 x, (.slice (some ⟨g, o, none⟩) d.size c)] 55)).alloc (.cells #[.int .i64 0, .slice none 0 0] 55) = W at *
    have E0 := Lib.hid D0.out.drew
    have k0 := E0.out.sc
    go_region_held3 (fun W => W.cell? ⟨w.heap.size, 0, none⟩ = some (.int .i64 y) ∧ W.cell? ⟨w.heap.size, 1, none⟩ = some (.slice (some ⟨g', o', none⟩) e.size c') ∧ W.cell? ⟨w.heap.size + 1, 0, none⟩ = some (.int .i64 x) ∧ W.cell? ⟨w.heap.size + 1, 1, none⟩ = some (.slice (some ⟨g, o, none⟩) d.size c)) (with_reducible first | assumption | exact k0 | exact k1 | exact k2 | exact k2a | exact k3 | exact k4) ((first
      | (go_at_call 42; (with_reducible refine (C1.out _).mono ?_); rintro f w1 ⟨rfl, hb1⟩; have E1 := Lib.hid (E0.out.below hb1); have k1 := E1.out.sc)
      | (go_at_call 44; (with_reducible refine (C2.out w1 E1.out.bel).mono ?_); rintro f w2 ⟨v2, rfl, hb2, hy2⟩; have Y2 := Lib.hid hy2; obtain ⟨g2, o2, c2, rfl, hc2⟩ := hy2.shape; clear hy2; have E2 := Lib.hid (E1.out.below hb2); have k2 := E2.out.sc; have E2a := Lib.hid (E2.out.alloc (.cells #[(.slice (some ⟨g', o', none⟩) e.size c'), (.slice (some ⟨g2, o2, none⟩) qd.size c2)] 53)); have k2a := E2a.out.sc; have CC := Lib.hid (C3.out (w2.alloc (.cells #[(.slice (some ⟨g', o', none⟩) e.size c'), (.slice (some ⟨g2, o2, none⟩) qd.size c2)] 53)) w2.heap.size (.slice (some ⟨g2, o2, none⟩) qd.size c2) E2a.out.bel (by rw [World.cell?_alloc_mark]; rfl) (by rw [World.cell?_alloc_mark]; rfl) (Y2.out.below ((Below.refl _ _).alloc (Nat.le_refl _) _))))
      | (go_at_call 63; (with_reducible refine CC.out.mono ?_); rintro f w3 ⟨v3, rfl, hb3, hy3⟩; have Y3 := Lib.hid hy3; obtain ⟨g3, o3, c3, rfl, hc3⟩ := hy3.shape; clear hy3; have E3 := Lib.hid (E2a.out.below hb3); have k3 := E3.out.sc; have r0 := E3.out.r 0; have r1 := E3.out.r 1; have t0 := E3.out.t 0; have t1 := E3.out.t 1; have k4 := E3.out.sc2 (.int .i64 y) (.slice (some ⟨g3, o3, none⟩) rr.size c3); have FIN := Lib.hid (E3.out.fin (x := .int .i64 y) Y3.out))))
    all_goals
      obtain ⟨BF, FF, YF⟩ := FIN.out
      have f0 := FF 0
      have f1 := FF 1
      have YF := Lib.hid YF
      go_wp2_with fail
      refine bodyPost_ret (v := .agg #[.int .i64 y, .slice (some ⟨g3, o3, none⟩) rr.size c3]) ?hr rfl ?_
      case hr => rw [results_cell_one rfl]; go_simp
      exact ⟨_, rfl, BF, YF.out⟩
  · obtain ⟨⟨qx, qd⟩, hqq⟩ : ∃ q, cut (y, e) (x + (d.size : Int)) = q := ⟨_, rfl⟩
    have hqd : qd.size ≤ 500000 := by have := cut_le (y, e) (x + (d.size : Int)) (n := 500000) (by show e.size ≤ 500000; omega); rwa [hqq] at this
    obtain ⟨rr, hrr⟩ : ∃ r, d ++ qd = r := ⟨_, rfl⟩
    have HJ : join (x, d) (y, e) = (x, rr) := (if_neg hs).trans (by rw [← hrr, show qd = (cut (y, e) (x + (d.size : Int))).2 by rw [hqq]]; rfl)
    rw [HJ]
    have C1 : Hid (∀ W : World, Calls Try.prog 42 #[.agg #[.int .i64 x, (.slice (some ⟨g, o, none⟩) d.size c)]] W fun f w' => f = .returned (.int .i64 (x + (d.size : Int))) ∧ Below W.heap.size W w') := Lib.hid fun W => iend_any x _ d.size c W (by omega) (by omega)
    have C2 : Hid (∀ W : World, Below w.heap.size w W → Calls Try.prog 44 #[.agg #[.int .i64 y, (.slice (some ⟨g', o', none⟩) e.size c')], .int .i64 (x + (d.size : Int))] W fun f w' => ∃ v, f = .returned (.agg #[.int .i64 qx, v]) ∧ Below W.heap.size W w' ∧ Byt w' v qd) := Lib.hid fun W hW => by have k := ifrom_any y (x + (d.size : Int)) _ e W (HV.out.below hW) (by omega) (by omega) (by omega); rw [hqq] at k; exact k
    have C3 : Hid (∀ (W : World) (b : Nat) (vb : Value), Below w.heap.size w W → W.cell? ⟨b, 0, none⟩ = some (.slice (some ⟨g, o, none⟩) d.size c) → W.cell? ⟨b, 1, none⟩ = some vb → Byt W vb qd → Calls Try.prog 63 #[.slice (some ⟨b, 0, none⟩) 2 2] W fun f w' => ∃ v, f = .returned v ∧ Below W.heap.size W w' ∧ Byt w' v rr) := Lib.hid fun W b vb hW k0 k1 hy => by rw [← hrr]; exact concatB_any b _ vb d qd W k0 k1 (HU.out.below hW) hy (by omega) (by omega) (by omega)
    have D0 := Lib.hid (J3.start w (.int .i64 x) (.slice (some ⟨g, o, none⟩) d.size c) (.int .i64 y) (.slice (some ⟨g', o', none⟩) e.size c'))
    have hfld := field1
    clear hqq hrr HJ
    go_enter Try.func57, Try.ntmps57
    go_upto_region 3 with fail
    generalize ((w.alloc (.cells #[.int .i64 x, (.slice (some ⟨g, o, none⟩) d.size c)] 55)).alloc (.cells #[.int .i64 y, (.slice (some ⟨g', o', none⟩) e.size c')] 55)).alloc (.cells #[.int .i64 0, .slice none 0 0] 55) = W at *
    have E0 := Lib.hid D0.out.drew
    have k0 := E0.out.sc
    go_region_held3 (fun W => W.cell? ⟨w.heap.size, 0, none⟩ = some (.int .i64 x) ∧ W.cell? ⟨w.heap.size, 1, none⟩ = some (.slice (some ⟨g, o, none⟩) d.size c) ∧ W.cell? ⟨w.heap.size + 1, 0, none⟩ = some (.int .i64 y) ∧ W.cell? ⟨w.heap.size + 1, 1, none⟩ = some (.slice (some ⟨g', o', none⟩) e.size c')) (with_reducible first | assumption | exact k0 | exact k1 | exact k2 | exact k2a | exact k3 | exact k4) ((first
      | (go_at_call 42; (with_reducible refine (C1.out _).mono ?_); rintro f w1 ⟨rfl, hb1⟩; have E1 := Lib.hid (E0.out.below hb1); have k1 := E1.out.sc)
      | (go_at_call 44; (with_reducible refine (C2.out w1 E1.out.bel).mono ?_); rintro f w2 ⟨v2, rfl, hb2, hy2⟩; have Y2 := Lib.hid hy2; obtain ⟨g2, o2, c2, rfl, hc2⟩ := hy2.shape; clear hy2; have E2 := Lib.hid (E1.out.below hb2); have k2 := E2.out.sc; have E2a := Lib.hid (E2.out.alloc (.cells #[(.slice (some ⟨g, o, none⟩) d.size c), (.slice (some ⟨g2, o2, none⟩) qd.size c2)] 53)); have k2a := E2a.out.sc; have CC := Lib.hid (C3.out (w2.alloc (.cells #[(.slice (some ⟨g, o, none⟩) d.size c), (.slice (some ⟨g2, o2, none⟩) qd.size c2)] 53)) w2.heap.size (.slice (some ⟨g2, o2, none⟩) qd.size c2) E2a.out.bel (by rw [World.cell?_alloc_mark]; rfl) (by rw [World.cell?_alloc_mark]; rfl) (Y2.out.below ((Below.refl _ _).alloc (Nat.le_refl _) _))))
      | (go_at_call 63; (with_reducible refine CC.out.mono ?_); rintro f w3 ⟨v3, rfl, hb3, hy3⟩; have Y3 := Lib.hid hy3; obtain ⟨g3, o3, c3, rfl, hc3⟩ := hy3.shape; clear hy3; have E3 := Lib.hid (E2a.out.below hb3); have k3 := E3.out.sc; have r0 := E3.out.r 0; have r1 := E3.out.r 1; have t0 := E3.out.t 0; have t1 := E3.out.t 1; have k4 := E3.out.sc2 (.int .i64 x) (.slice (some ⟨g3, o3, none⟩) rr.size c3); have FIN := Lib.hid (E3.out.fin (x := .int .i64 x) Y3.out))))
    all_goals
      obtain ⟨BF, FF, YF⟩ := FIN.out
      have f0 := FF 0
      have f1 := FF 1
      have YF := Lib.hid YF
      go_wp2_with fail
      refine bodyPost_ret (v := .agg #[.int .i64 x, .slice (some ⟨g3, o3, none⟩) rr.size c3]) ?hr rfl ?_
      case hr => rw [results_cell_one rfl]; go_simp
      exact ⟨_, rfl, BF, YF.out⟩
end Go.Proofs.Ythdhjjbgegcncaa
