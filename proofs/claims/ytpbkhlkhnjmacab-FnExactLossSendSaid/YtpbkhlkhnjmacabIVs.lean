/- The program's LossSend. -/
import Derived.Test.YtpbkhlkhnjmacabIVm
import Derived.Test.YtpbkhlkhnjmacabIFo
import Derived.Test.YtpbkhlkhnjmacabIFp
import Derived.Test.YtpbkhlkhnjmacabSLs
import Derived.Deep.RegionHeld3
namespace Go.Proofs.Ytpbkhlkhnjmacab
open Go.RowKit
set_option linter.unusedVariables false
set_option linter.unusedSimpArgs false

/-- Where a call of LossSend stands: its argument's block, its result's. -/
structure LsAt (w W : World) (n g : Int) (v : Value) : Prop where
  bl : Below w.heap.size w W
  x : C3 W w.heap.size (.int .i64 n) v (.int .i64 g)
  z : C3 W (w.heap.size + 1) (.int .i64 0) (.slice none 0 0) (.int .i64 0)
  zf : Soft W (w.heap.size + 1)
theorem LsAt.below {w W W' : World} {n g : Int} {v : Value} (h : LsAt w W n g v) (hb : Below W.heap.size W W') : LsAt w W' n g v := ⟨h.bl.trans (hb.mono h.bl.size), h.x.below hb, h.z.below hb, h.zf.below hb h.z.lt⟩
theorem LsAt.drew {w W : World} {n g : Int} {v : Value} (h : LsAt w W n g v) : LsAt w W.drew n g v := h.below (Below.refl _ _).drew
theorem LsAt.new (w : World) (n g : Int) (v : Value) : LsAt w ((w.alloc (.cells #[.int .i64 n, v, .int .i64 g] 24)).alloc (.cells #[.int .i64 0, .slice none 0 0, .int .i64 0] 24)) n g v := by
  have e1 : (w.alloc (.cells #[.int .i64 n, v, .int .i64 g] 24)).heap.size = w.heap.size + 1 := by simp
  exact ⟨((Below.refl _ _).alloc (Nat.le_refl _) _).alloc (by omega) _, (C3.new w _ _ _ _).alloc _, by rw [← e1]; exact C3.new _ _ _ _ _, by rw [← e1]; exact Soft.new _ _ _⟩
/-- The result's cells are written. -/
abbrev setR (w W : World) (n g : Int) (v : Value) : World := ((W.setCell ⟨w.heap.size + 1, 0, none⟩ (.int .i64 n)).setCell ⟨w.heap.size + 1, 1, none⟩ v).setCell ⟨w.heap.size + 1, 2, none⟩ (.int .i64 g)
theorem LsAt.res {w W : World} {n g n' g' : Int} {v v' : Value} (h : LsAt w W n g v) : C3 (setR w W n' g' v') (w.heap.size + 1) (.int .i64 n') v' (.int .i64 g') ∧ Below w.heap.size w (setR w W n' g' v') :=
  ⟨((h.z.set0 _).set1 _).set2 _, ((h.bl.setCell (p := ⟨w.heap.size + 1, 0, none⟩) (Nat.le_succ _) _).setCell (p := ⟨w.heap.size + 1, 1, none⟩) (Nat.le_succ _) _).setCell (p := ⟨w.heap.size + 1, 2, none⟩) (Nat.le_succ _) _⟩
theorem own_setR {w W : World} {B : Nat} {n' g' : Int} {u v' : Value} {l : List Pk} (h : OwnPk W B u l) (hB : w.heap.size + 1 < B) : OwnPk (setR w W n' g' v') B u l := by
  have hw : u.ownBlock ≠ some (w.heap.size + 1) := fun e => by have := (World.ownsRow.lt h _ e).1; omega
  exact (((h.far hw).far hw).far hw)
theorem C3.setR {w W : World} {n' g' : Int} {v' u1 u2 u3 : Value} (h : C3 W w.heap.size u1 u2 u3) : C3 (setR w W n' g' v') w.heap.size u1 u2 u3 := ((h.far (by omega)).far (by omega)).far (by omega)
theorem plsendv_no {s : Ls} {t z : Int} (h : ¬ (lok s ∧ (0 ≤ t ∧ t ≤ 999) ∧ (1 ≤ z ∧ z ≤ 99))) : lsendv s t z = ((0, [], 0), 0, false) := by unfold lsendv; rw [if_neg h]
theorem plsendv_yes {s : Ls} {t z : Int} (h : lok s) (ht : 0 ≤ t ∧ t ≤ 999) (hz : 1 ≤ z ∧ z ≤ 99) : lsendv s t z = lsend s t z := by unfold lsendv; rw [if_pos ⟨h, ht, hz⟩]
theorem last_getD {l : List Pk} (h : l.length ≠ 0) : (pkD :: l).getD l.length pkD = l.getD (l.length - 1) pkD := by
  cases l with
  | nil => exact absurd rfl h
  | cons x t => simp

set_option maxRecDepth 100000 in
set_option maxHeartbeats 8000000 in
theorem ilsend_any (n g t z : Int) (v : Value) (l : List Pk) (w : World) (hs : Pks w v l) (hl : l.length ≤ 1048576) : Calls Try.prog 19 #[.agg #[.int .i64 n, v, .int .i64 g], .int .i64 t, .int .i64 z] w (SendL w (lsendv (n, l, g) t z)) := by
  have HS := Lib.hid hs
  obtain ⟨a, c, rfl, hcc, hs⟩ := hs
  clear hs hcc
  obtain ⟨W1, hW1⟩ : ∃ W1, (w.alloc (.cells #[.int .i64 n, .slice a l.length c, .int .i64 g] 24)).alloc (.cells #[.int .i64 0, .slice none 0 0, .int .i64 0] 24) = W1 := ⟨_, rfl⟩
  have HW1 := Lib.hid hW1
  have A1 := Lib.hid (show LsAt w W1 n g (.slice a l.length c) by rw [← hW1]; exact LsAt.new _ _ _ _)
  have HV := Lib.hid (ilval_any n g _ l W1 (HS.out.below A1.out.bl) hl)
  have HT := Lib.hid (upTo_any t 999)
  have HZ := Lib.hid (isSize_any z)
  obtain ⟨x0, x1, x2⟩ := A1.out.x
  clear hW1
  by_cases hv : lok (n, l, g)
  case neg =>
    have HD := Lib.hid (decide_eq_false hv)
    have HF := Lib.hid (plsendv_no (s := (n, l, g)) (t := t) (z := z) fun h => hv h.1)
    clear hv
    go_enter Try.func19, Try.ntmps19
    go_wp2_with fail
    rw [HW1.out]
    go_wp2_with fail
    refine HV.out.mono ?_
    rw [HD.out]
    rintro e w2 ⟨rfl, hb2⟩
    have A2 := Lib.hid (A1.out.below hb2)
    obtain ⟨x0, x1, x2⟩ := A2.out.x
    obtain ⟨z0, z1, z2⟩ := A2.out.z
    have f0 := A2.out.zf 0
    have f1 := A2.out.zf 1
    have f2 := A2.out.zf 2
    clear hb2
    go_wp2_with fail
    have R := Lib.hid (A2.out.res (n' := 0) (g' := 0) (v' := .slice none 0 0))
    show bodyPost Try.prog _ _ _ _ (setR w w2 0 0 (.slice none 0 0))
    obtain ⟨k0, k1, k2⟩ := R.out.1
    generalize setR w w2 0 0 (.slice none 0 0) = WF at R k0 k1 k2 ⊢
    refine bodyPost_ret (v := .tuple #[.agg #[.int .i64 0, .slice none 0 0, .int .i64 0], .int .i64 0, .bool false]) ?hr rfl ?_
    case hr => rw [results_ctt rfl]; go_simp
    rw [HF.out]
    exact ⟨_, rfl, OwnPk.nil _ _, R.out.2⟩
  have HD := Lib.hid (decide_eq_true hv)
  by_cases ht : 0 ≤ t ∧ t ≤ 999
  case neg =>
    have HTD := Lib.hid (decide_eq_false ht)
    have HF := Lib.hid (plsendv_no (s := (n, l, g)) (t := t) (z := z) fun h => ht h.2.1)
    clear hv ht
    go_enter Try.func19, Try.ntmps19
    go_wp2_with fail
    rw [HW1.out]
    go_wp2_with fail
    refine HV.out.mono ?_
    rw [HD.out]
    rintro e w2 ⟨rfl, hb2⟩
    have A2 := Lib.hid (A1.out.below hb2)
    obtain ⟨x0, x1, x2⟩ := A2.out.x
    obtain ⟨z0, z1, z2⟩ := A2.out.z
    have f0 := A2.out.zf 0
    have f1 := A2.out.zf 1
    have f2 := A2.out.zf 2
    clear hb2
    go_wp2_with fail
    refine (HT.out _).mono ?_
    rw [HTD.out]
    rintro e w3 ⟨rfl, hw⟩
    rw [← hw]
    clear hw
    go_wp2_with fail
    have R := Lib.hid (A2.out.res (n' := 0) (g' := 0) (v' := .slice none 0 0))
    show bodyPost Try.prog _ _ _ _ (setR w w2 0 0 (.slice none 0 0))
    obtain ⟨k0, k1, k2⟩ := R.out.1
    generalize setR w w2 0 0 (.slice none 0 0) = WF at R k0 k1 k2 ⊢
    refine bodyPost_ret (v := .tuple #[.agg #[.int .i64 0, .slice none 0 0, .int .i64 0], .int .i64 0, .bool false]) ?hr rfl ?_
    case hr => rw [results_ctt rfl]; go_simp
    rw [HF.out]
    exact ⟨_, rfl, OwnPk.nil _ _, R.out.2⟩
  have HTD := Lib.hid (decide_eq_true ht)
  by_cases hz : 1 ≤ z ∧ z ≤ 99
  case neg =>
    have HZD := Lib.hid (decide_eq_false hz)
    have HF := Lib.hid (plsendv_no (s := (n, l, g)) (t := t) (z := z) fun h => hz h.2.2)
    clear hv ht hz
    go_enter Try.func19, Try.ntmps19
    go_wp2_with fail
    rw [HW1.out]
    go_wp2_with fail
    refine HV.out.mono ?_
    rw [HD.out]
    rintro e w2 ⟨rfl, hb2⟩
    have A2 := Lib.hid (A1.out.below hb2)
    obtain ⟨x0, x1, x2⟩ := A2.out.x
    obtain ⟨z0, z1, z2⟩ := A2.out.z
    have f0 := A2.out.zf 0
    have f1 := A2.out.zf 1
    have f2 := A2.out.zf 2
    clear hb2
    go_wp2_with fail
    refine (HT.out _).mono ?_
    rw [HTD.out]
    rintro e w3 ⟨rfl, hw⟩
    rw [← hw]
    clear hw
    go_wp2_with fail
    refine (HZ.out _).mono ?_
    rw [HZD.out]
    rintro e w3 ⟨rfl, hw⟩
    rw [← hw]
    clear hw
    go_wp2_with fail
    have R := Lib.hid (A2.out.res (n' := 0) (g' := 0) (v' := .slice none 0 0))
    show bodyPost Try.prog _ _ _ _ (setR w w2 0 0 (.slice none 0 0))
    obtain ⟨k0, k1, k2⟩ := R.out.1
    generalize setR w w2 0 0 (.slice none 0 0) = WF at R k0 k1 k2 ⊢
    refine bodyPost_ret (v := .tuple #[.agg #[.int .i64 0, .slice none 0 0, .int .i64 0], .int .i64 0, .bool false]) ?hr rfl ?_
    case hr => rw [results_ctt rfl]; go_simp
    rw [HF.out]
    exact ⟨_, rfl, OwnPk.nil _ _, R.out.2⟩
  have HZD := Lib.hid (decide_eq_true hz)
  have HY := Lib.hid (plsendv_yes hv ht hz)
  have h12 : l.length ≤ 12 := hv.2.2.1
  have hn1 : 0 ≤ n := hv.1.1
  have hn2 : n ≤ 1000 := hv.1.2
  obtain ⟨ht1, ht2⟩ := ht
  clear hv hz
  go_enter Try.func19, Try.ntmps19
  go_wp2_with fail
  rw [HW1.out]
  go_wp2_with fail
  refine HV.out.mono ?_
  rw [HD.out]
  rintro e w2 ⟨rfl, hb2⟩
  have A2 := Lib.hid (A1.out.below hb2)
  obtain ⟨x0, x1, x2⟩ := A2.out.x
  obtain ⟨z0, z1, z2⟩ := A2.out.z
  have f0 := A2.out.zf 0
  have f1 := A2.out.zf 1
  have f2 := A2.out.zf 2
  clear hb2
  go_wp2_with fail
  refine (HT.out _).mono ?_
  rw [HTD.out]
  rintro e w3 ⟨rfl, hw⟩
  rw [← hw]
  clear hw
  go_wp2_with fail
  refine (HZ.out _).mono ?_
  rw [HZD.out]
  rintro e w3 ⟨rfl, hw⟩
  rw [← hw]
  clear hw
  go_wp2_with fail
  have CF := Lib.hid (flightOf_any _ l w2 (HS.out.below A2.out.bl) hl)
  refine CF.out.mono ?_
  rintro e w3 ⟨f, cs, rfl, hf3, hb3⟩
  have A3 := Lib.hid (A2.out.below hb3)
  have F3 := Lib.hid hf3
  have HB2 := Lib.hid (show w.heap.size + 1 < w2.heap.size from A2.out.z.lt)
  have HB3 := Lib.hid hb3.size
  have LT := Lib.hid (lastTime_any _ f cs l w3 hf3)
  clear hf3 hb3 x0 x1 x2 z0 z1 z2 f0 f1 f2
  obtain ⟨x0, x1, x2⟩ := A3.out.x
  by_cases q1 : 999 < n
  case pos =>
    have hd := decide_eq_true q1
    have HF := Lib.hid (HY.out.trans (lsend_no (s := (n, l, g)) (t := t) (z := z) (.inl q1)))
    go_wp2_with fail
    have AD := Lib.hid A3.out.drew
    have kd : w3.drew.cell? ⟨w.heap.size, 0, none⟩ = some (.int .i64 n) ∧ w3.drew.cell? ⟨w.heap.size, 2, none⟩ = some (.int .i64 g) := ⟨AD.out.x.c0, AD.out.x.c2⟩
    have CP := Lib.hid (fpackets_any _ f _ (l) w3.drew (F3.out.below (Below.refl _ _).drew) (by first | omega | (simp; omega)))
    go_region_held3 (fun W => W.cell? ⟨w.heap.size, 0, none⟩ = some (.int .i64 n) ∧ W.cell? ⟨w.heap.size, 2, none⟩ = some (.int .i64 g)) (with_reducible first | assumption | exact kd | exact k8 | exact k9)
      ((go_at_call 44; (with_reducible refine CP.out.mono ?_); rintro e w8 ⟨v8, rfl, hO8, hb8⟩; obtain ⟨a8, c8, rfl⟩ := ownsRow_shape hO8; have A8 := Lib.hid (AD.out.below hb8); have HO8 := Lib.hid hO8; have k8 : w8.cell? ⟨w.heap.size, 0, none⟩ = some (.int .i64 n) ∧ w8.cell? ⟨w.heap.size, 2, none⟩ = some (.int .i64 g) := ⟨A8.out.x.c0, A8.out.x.c2⟩; have xA := A8.out.x.c0; have xB := A8.out.x.c2; have z0 := A8.out.z.c0; have z1 := A8.out.z.c1; have z2 := A8.out.z.c2; have f0 := A8.out.zf 0; have f1 := A8.out.zf 1; have f2 := A8.out.zf 2; have k9 : (setR w w8 (n) g (.slice a8 (l).length c8)).cell? ⟨w.heap.size, 0, none⟩ = some (.int .i64 n) ∧ (setR w w8 (n) g (.slice a8 (l).length c8)).cell? ⟨w.heap.size, 2, none⟩ = some (.int .i64 g) := ⟨(A8.out.x.setR).c0, (A8.out.x.setR).c2⟩; clear hO8 hb8))
    have R := Lib.hid (A8.out.res (n' := n) (g' := g) (v' := .slice a8 (l).length c8))
    have EO := Lib.hid (own_setR (w := w) (n' := n) (g' := g) (v' := .slice a8 (l).length c8) HO8.out (by have := AD.out.z.lt; omega))
    have EL := Lib.hid (OwnPk.lower EO.out AD.out.bl.size)
    unfold setR at R EL
    generalize ((w8.setCell ⟨w.heap.size + 1, 0, none⟩ (.int .i64 (n))).setCell ⟨w.heap.size + 1, 1, none⟩ (.slice a8 (l).length c8)).setCell ⟨w.heap.size + 1, 2, none⟩ (.int .i64 g) = WF at R EL ⊢
    clear k8 k9 kd xA xB z0 z1 z2 f0 f1 f2 x0 x1 x2 EO
    obtain ⟨k0, k1, k2⟩ := R.out.1
    go_wp2_with fail
    refine bodyPost_ret (v := .tuple #[.agg #[.int .i64 (n), .slice a8 (l).length c8, .int .i64 g], .int .i64 (-1), .bool false]) ?hr rfl ?_
    case hr => rw [results_ctt rfl]; go_simp
    rw [HF.out]
    exact ⟨_, rfl, EL.out, R.out.2⟩
  have hd := decide_eq_false q1
  by_cases q2 : l.length = 12
  case pos =>
    have hd2 : ((l.length : Int) == 12) = true := by simp [q2]
    have HF := Lib.hid (HY.out.trans (lsend_no (s := (n, l, g)) (t := t) (z := z) (.inr (.inl (by show 12 ≤ l.length; omega)))))
    clear q2
    go_wp2_with fail
    have AD := Lib.hid A3.out.drew
    have kd : w3.drew.cell? ⟨w.heap.size, 0, none⟩ = some (.int .i64 n) ∧ w3.drew.cell? ⟨w.heap.size, 2, none⟩ = some (.int .i64 g) := ⟨AD.out.x.c0, AD.out.x.c2⟩
    have CP := Lib.hid (fpackets_any _ f _ (l) w3.drew (F3.out.below (Below.refl _ _).drew) (by first | omega | (simp; omega)))
    go_region_held3 (fun W => W.cell? ⟨w.heap.size, 0, none⟩ = some (.int .i64 n) ∧ W.cell? ⟨w.heap.size, 2, none⟩ = some (.int .i64 g)) (with_reducible first | assumption | exact kd | exact k8 | exact k9)
      ((go_at_call 44; (with_reducible refine CP.out.mono ?_); rintro e w8 ⟨v8, rfl, hO8, hb8⟩; obtain ⟨a8, c8, rfl⟩ := ownsRow_shape hO8; have A8 := Lib.hid (AD.out.below hb8); have HO8 := Lib.hid hO8; have k8 : w8.cell? ⟨w.heap.size, 0, none⟩ = some (.int .i64 n) ∧ w8.cell? ⟨w.heap.size, 2, none⟩ = some (.int .i64 g) := ⟨A8.out.x.c0, A8.out.x.c2⟩; have xA := A8.out.x.c0; have xB := A8.out.x.c2; have z0 := A8.out.z.c0; have z1 := A8.out.z.c1; have z2 := A8.out.z.c2; have f0 := A8.out.zf 0; have f1 := A8.out.zf 1; have f2 := A8.out.zf 2; have k9 : (setR w w8 (n) g (.slice a8 (l).length c8)).cell? ⟨w.heap.size, 0, none⟩ = some (.int .i64 n) ∧ (setR w w8 (n) g (.slice a8 (l).length c8)).cell? ⟨w.heap.size, 2, none⟩ = some (.int .i64 g) := ⟨(A8.out.x.setR).c0, (A8.out.x.setR).c2⟩; clear hO8 hb8))
    have R := Lib.hid (A8.out.res (n' := n) (g' := g) (v' := .slice a8 (l).length c8))
    have EO := Lib.hid (own_setR (w := w) (n' := n) (g' := g) (v' := .slice a8 (l).length c8) HO8.out (by have := AD.out.z.lt; omega))
    have EL := Lib.hid (OwnPk.lower EO.out AD.out.bl.size)
    unfold setR at R EL
    generalize ((w8.setCell ⟨w.heap.size + 1, 0, none⟩ (.int .i64 (n))).setCell ⟨w.heap.size + 1, 1, none⟩ (.slice a8 (l).length c8)).setCell ⟨w.heap.size + 1, 2, none⟩ (.int .i64 g) = WF at R EL ⊢
    clear k8 k9 kd xA xB z0 z1 z2 f0 f1 f2 x0 x1 x2 EO
    obtain ⟨k0, k1, k2⟩ := R.out.1
    go_wp2_with fail
    refine bodyPost_ret (v := .tuple #[.agg #[.int .i64 (n), .slice a8 (l).length c8, .int .i64 g], .int .i64 (-1), .bool false]) ?hr rfl ?_
    case hr => rw [results_ctt rfl]; go_simp
    rw [HF.out]
    exact ⟨_, rfl, EL.out, R.out.2⟩
  have hd2 : ((l.length : Int) == 12) = false := by simp; omega
  obtain ⟨ty, hty⟩ : ∃ ty, ((pkD :: l).getD l.length pkD).2.1 = ty := ⟨_, rfl⟩
  have HTY := Lib.hid hty
  rw [hty] at LT
  clear hty
  by_cases q3 : t < ty
  case pos =>
    have hd3 := decide_eq_true q3
    have HF := Lib.hid (HY.out.trans (lsend_no (s := (n, l, g)) (t := t) (z := z) (.inr (.inr (by
      rw [← HTY.out] at q3
      by_cases e : l.length = 0
      · exfalso; rw [List.length_eq_zero_iff.1 e] at q3; simp [pkD] at q3; omega
      · rw [last_getD e] at q3; exact ⟨by show 0 < l.length; omega, q3⟩)))))
    have HLT := Lib.hid hd3
    clear q2 q3 hd3
    go_wp2_with fail
    refine LT.out.mono ?_
    rintro e w4 ⟨rfl, hw⟩
    rw [← hw]
    clear hw
    have hd3 := HLT.out
    go_wp2_with fail
    have AD := Lib.hid A3.out.drew
    have kd : w3.drew.cell? ⟨w.heap.size, 0, none⟩ = some (.int .i64 n) ∧ w3.drew.cell? ⟨w.heap.size, 2, none⟩ = some (.int .i64 g) := ⟨AD.out.x.c0, AD.out.x.c2⟩
    have CP := Lib.hid (fpackets_any _ f _ (l) w3.drew (F3.out.below (Below.refl _ _).drew) (by first | omega | (simp; omega)))
    go_region_held3 (fun W => W.cell? ⟨w.heap.size, 0, none⟩ = some (.int .i64 n) ∧ W.cell? ⟨w.heap.size, 2, none⟩ = some (.int .i64 g)) (with_reducible first | assumption | exact kd | exact k8 | exact k9)
      ((go_at_call 44; (with_reducible refine CP.out.mono ?_); rintro e w8 ⟨v8, rfl, hO8, hb8⟩; obtain ⟨a8, c8, rfl⟩ := ownsRow_shape hO8; have A8 := Lib.hid (AD.out.below hb8); have HO8 := Lib.hid hO8; have k8 : w8.cell? ⟨w.heap.size, 0, none⟩ = some (.int .i64 n) ∧ w8.cell? ⟨w.heap.size, 2, none⟩ = some (.int .i64 g) := ⟨A8.out.x.c0, A8.out.x.c2⟩; have xA := A8.out.x.c0; have xB := A8.out.x.c2; have z0 := A8.out.z.c0; have z1 := A8.out.z.c1; have z2 := A8.out.z.c2; have f0 := A8.out.zf 0; have f1 := A8.out.zf 1; have f2 := A8.out.zf 2; have k9 : (setR w w8 (n) g (.slice a8 (l).length c8)).cell? ⟨w.heap.size, 0, none⟩ = some (.int .i64 n) ∧ (setR w w8 (n) g (.slice a8 (l).length c8)).cell? ⟨w.heap.size, 2, none⟩ = some (.int .i64 g) := ⟨(A8.out.x.setR).c0, (A8.out.x.setR).c2⟩; clear hO8 hb8))
    have R := Lib.hid (A8.out.res (n' := n) (g' := g) (v' := .slice a8 (l).length c8))
    have EO := Lib.hid (own_setR (w := w) (n' := n) (g' := g) (v' := .slice a8 (l).length c8) HO8.out (by have := AD.out.z.lt; omega))
    have EL := Lib.hid (OwnPk.lower EO.out AD.out.bl.size)
    unfold setR at R EL
    generalize ((w8.setCell ⟨w.heap.size + 1, 0, none⟩ (.int .i64 (n))).setCell ⟨w.heap.size + 1, 1, none⟩ (.slice a8 (l).length c8)).setCell ⟨w.heap.size + 1, 2, none⟩ (.int .i64 g) = WF at R EL ⊢
    clear k8 k9 kd xA xB z0 z1 z2 f0 f1 f2 x0 x1 x2 EO
    obtain ⟨k0, k1, k2⟩ := R.out.1
    go_wp2_with fail
    refine bodyPost_ret (v := .tuple #[.agg #[.int .i64 (n), .slice a8 (l).length c8, .int .i64 g], .int .i64 (-1), .bool false]) ?hr rfl ?_
    case hr => rw [results_ctt rfl]; go_simp
    rw [HF.out]
    exact ⟨_, rfl, EL.out, R.out.2⟩
  have hd3 := decide_eq_false q3
  have HF := Lib.hid (HY.out.trans (lsend_yes (s := (n, l, g)) (t := t) (z := z) (by
    rintro (h | h | ⟨h1, h2⟩)
    · exact q1 h
    · simp only at h; omega
    · have h1' : l.length ≠ 0 := by have : 0 < l.length := h1; omega
      rw [← last_getD h1', HTY.out] at h2; exact q3 h2)))
  have hwn : IntKind.i64.wrap (n + 1) = n + 1 := IntWalk.i64_in _ (by omega)
  have HLT := Lib.hid hd3
  clear q2 q3 hd3
  go_wp2_with fail
  refine LT.out.mono ?_
  rintro e w4 ⟨rfl, hw⟩
  rw [← hw]
  clear hw
  have hd3 := HLT.out
  go_wp2_with fail
  refine (fadd_any _ f cs l n t z w3 F3.out HB3.out).mono ?_
  rintro e w4 ⟨rfl, ⟨cs4, hf4⟩, hb4⟩
  have A4 := Lib.hid (show LsAt w w4 n g (.slice a l.length c) from ⟨A3.out.bl.trans (hb4.mono (by have := HB2.out; omega)), ⟨(hb4.cell (p := ⟨w.heap.size, 0, none⟩) (by have := HB2.out; show w.heap.size < _; omega)).trans A3.out.x.c0, (hb4.cell (p := ⟨w.heap.size, 1, none⟩) (by have := HB2.out; show w.heap.size < _; omega)).trans A3.out.x.c1, (hb4.cell (p := ⟨w.heap.size, 2, none⟩) (by have := HB2.out; show w.heap.size < _; omega)).trans A3.out.x.c2⟩,
    ⟨(hb4.cell (p := ⟨w.heap.size + 1, 0, none⟩) HB2.out).trans A3.out.z.c0, (hb4.cell (p := ⟨w.heap.size + 1, 1, none⟩) HB2.out).trans A3.out.z.c1, (hb4.cell (p := ⟨w.heap.size + 1, 2, none⟩) HB2.out).trans A3.out.z.c2⟩, fun i => (hb4.frozen (p := ⟨w.heap.size + 1, i, none⟩) HB2.out).trans (A3.out.zf i)⟩)
  obtain ⟨l4, hl4⟩ : ∃ x, l ++ [(n, t, z)] = x := ⟨_, rfl⟩
  rw [hl4] at hf4 HF
  have hl4' : l4.length ≤ 1048576 := by rw [← hl4]; simp; omega
  have F4 := Lib.hid hf4
  clear hl4 hf4 hb4 x0 x1 x2 A3 F3
  have A3 := A4
  obtain ⟨x0, x1, x2⟩ := A3.out.x
  go_wp2_with fail
  have AD := Lib.hid A3.out.drew
  have kd : w4.drew.cell? ⟨w.heap.size, 0, none⟩ = some (.int .i64 n) ∧ w4.drew.cell? ⟨w.heap.size, 2, none⟩ = some (.int .i64 g) := ⟨AD.out.x.c0, AD.out.x.c2⟩
  have CP := Lib.hid (fpackets_any _ f _ (l4) w4.drew (F4.out.below (Below.refl _ _).drew) (by first | omega | (simp; omega)))
  go_region_held3 (fun W => W.cell? ⟨w.heap.size, 0, none⟩ = some (.int .i64 n) ∧ W.cell? ⟨w.heap.size, 2, none⟩ = some (.int .i64 g)) (with_reducible first | assumption | exact kd | exact k8 | exact k9)
    ((go_at_call 44; (with_reducible refine CP.out.mono ?_); rintro e w8 ⟨v8, rfl, hO8, hb8⟩; obtain ⟨a8, c8, rfl⟩ := ownsRow_shape hO8; have A8 := Lib.hid (AD.out.below hb8); have HO8 := Lib.hid hO8; have k8 : w8.cell? ⟨w.heap.size, 0, none⟩ = some (.int .i64 n) ∧ w8.cell? ⟨w.heap.size, 2, none⟩ = some (.int .i64 g) := ⟨A8.out.x.c0, A8.out.x.c2⟩; have xA := A8.out.x.c0; have xB := A8.out.x.c2; have z0 := A8.out.z.c0; have z1 := A8.out.z.c1; have z2 := A8.out.z.c2; have f0 := A8.out.zf 0; have f1 := A8.out.zf 1; have f2 := A8.out.zf 2; have k9 : (setR w w8 (n + 1) g (.slice a8 (l4).length c8)).cell? ⟨w.heap.size, 0, none⟩ = some (.int .i64 n) ∧ (setR w w8 (n + 1) g (.slice a8 (l4).length c8)).cell? ⟨w.heap.size, 2, none⟩ = some (.int .i64 g) := ⟨(A8.out.x.setR).c0, (A8.out.x.setR).c2⟩; clear hO8 hb8))
  have R := Lib.hid (A8.out.res (n' := n + 1) (g' := g) (v' := .slice a8 (l4).length c8))
  have EO := Lib.hid (own_setR (w := w) (n' := n + 1) (g' := g) (v' := .slice a8 (l4).length c8) HO8.out (by have := AD.out.z.lt; omega))
  have EL := Lib.hid (OwnPk.lower EO.out AD.out.bl.size)
  unfold setR at R EL
  generalize ((w8.setCell ⟨w.heap.size + 1, 0, none⟩ (.int .i64 (n + 1))).setCell ⟨w.heap.size + 1, 1, none⟩ (.slice a8 (l4).length c8)).setCell ⟨w.heap.size + 1, 2, none⟩ (.int .i64 g) = WF at R EL ⊢
  clear k8 k9 kd xA xB z0 z1 z2 f0 f1 f2 x0 x1 x2 EO
  obtain ⟨k0, k1, k2⟩ := R.out.1
  go_wp2_with fail
  refine bodyPost_ret (v := .tuple #[.agg #[.int .i64 (n + 1), .slice a8 (l4).length c8, .int .i64 g], .int .i64 n, .bool true]) ?hr rfl ?_
  case hr => rw [results_ctt rfl]; go_simp
  rw [HF.out]
  exact ⟨_, rfl, EL.out, R.out.2⟩

end Go.Proofs.Ytpbkhlkhnjmacab
