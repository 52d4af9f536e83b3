/- The model's LossAck. -/
import Derived.Test.YtccolpaenmebeaaSLv
import Derived.Test.YtccolpaenmebeaaSLa
import Derived.Test.YtccolpaenmebeaaLaMath
import Derived.Test.YtccolpaenmebeaaUpq
import Derived.Deep.CutBlock
namespace Go.Proofs.Ytccolpaenmebeaa
open Go.RowKit
set_option linter.unusedVariables false
set_option linter.unusedSimpArgs false

/-- Where a call of the model's LossAck stands: its argument's block, its result's. -/
structure SeAt (w W : World) (n g : Int) (v : Value) : Prop where
  bl : Below w.heap.size w W
  x : C3 W w.heap.size (.int .i64 n) v (.int .i64 g)
  z : C3 W (w.heap.size + 1) (.int .i64 0) (.slice none 0 0) (.int .i64 0)
  zf : Soft W (w.heap.size + 1)
theorem SeAt.below {w W W' : World} {n g : Int} {v : Value} (h : SeAt w W n g v) (hb : Below W.heap.size W W') : SeAt w W' n g v := ⟨h.bl.trans (hb.mono h.bl.size), h.x.below hb, h.z.below hb, h.zf.below hb h.z.lt⟩
theorem SeAt.new (w : World) (n g : Int) (v : Value) : SeAt w ((w.alloc (.cells #[.int .i64 n, v, .int .i64 g] 24)).alloc (.cells #[.int .i64 0, .slice none 0 0, .int .i64 0] 24)) n g v := by
  have e1 : (w.alloc (.cells #[.int .i64 n, v, .int .i64 g] 24)).heap.size = w.heap.size + 1 := by simp
  exact ⟨((Below.refl _ _).alloc (Nat.le_refl _) _).alloc (by omega) _, (C3.new w _ _ _ _).alloc _, by rw [← e1]; exact C3.new _ _ _ _ _, by rw [← e1]; exact Soft.new _ _ _⟩
abbrev setE (w W : World) (n g : Int) (v : Value) : World := ((W.setCell ⟨w.heap.size + 1, 0, none⟩ (.int .i64 n)).setCell ⟨w.heap.size + 1, 1, none⟩ v).setCell ⟨w.heap.size + 1, 2, none⟩ (.int .i64 g)
theorem SeAt.res {w W : World} {n g n' g' : Int} {v v' : Value} (h : SeAt w W n g v) : C3 (setE w W n' g' v') (w.heap.size + 1) (.int .i64 n') v' (.int .i64 g') ∧ Below w.heap.size w (setE w W n' g' v') :=
  ⟨((h.z.set0 _).set1 _).set2 _, ((h.bl.setCell (p := ⟨w.heap.size + 1, 0, none⟩) (Nat.le_succ _) _).setCell (p := ⟨w.heap.size + 1, 1, none⟩) (Nat.le_succ _) _).setCell (p := ⟨w.heap.size + 1, 2, none⟩) (Nat.le_succ _) _⟩
theorem own_setE {T : TypeId} {k m : Nat} {xs : List Value} {w W : World} {B : Nat} {n' g' : Int} {u v' : Value} (h : W.ownsRow B T k u m xs) (hB : w.heap.size + 1 < B) : (setE w W n' g' v').ownsRow B T k u m xs := by
  have hw : u.ownBlock ≠ some (w.heap.size + 1) := fun e => by have := (World.ownsRow.lt h _ e).1; omega
  have st : ∀ (V : World) (i : Nat) (x : Value), V.ownsRow B T k u m xs → (V.setCell ⟨w.heap.size + 1, i, none⟩ x).ownsRow B T k u m xs := fun V i x hv => World.ownsRow.kept hv (Lib.grownBy_setCell V (w.heap.size + 1) i x) (by cases hq : u.ownBlock with | none => exact .inl rfl | some g => exact .inr (by rw [← hq]; exact hw))
  exact st _ _ _ (st _ _ _ (st _ _ _ h))
theorem OwnI.baseE {w : World} {B B' : Nat} {v : Value} {xs : List Int} (h : OwnI w B v xs) (hB : B' ≤ B) : OwnI w B' v xs := h.base hB

set_option maxRecDepth 100000 in
set_option maxHeartbeats 8000000 in
theorem slackv_any (n g t d : Int) (v av : Value) (l : List Pk) (r : List (Int × Int)) (w : World) (hs : Pks w v l) (hr : Rngs w av r) (hl : l.length ≤ 1048576) (hrl : r.length ≤ 1048576) : Calls Try.prog 21 #[.agg #[.int .i64 n, v, .int .i64 g], av, .int .i64 t, .int .i64 d] w (AckV w (lackv (n, l, g) r t d)) := by
  have HS := Lib.hid hs
  have HR := Lib.hid hr
  obtain ⟨a, c, rfl, hcc, hs⟩ := hs
  obtain ⟨ra, rc, rfl, hrr⟩ := hr
  have HRC := Lib.hid hrr
  clear hs hcc hrr
  obtain ⟨W1, hW1⟩ : ∃ W1, (w.alloc (.cells #[.int .i64 n, .slice a l.length c, .int .i64 g] 24)).alloc (.cells #[.int .i64 0, .slice none 0 0, .int .i64 0] 24) = W1 := ⟨_, rfl⟩
  have HW1 := Lib.hid hW1
  have A1 := Lib.hid (show SeAt w W1 n g (.slice a l.length c) by rw [← hW1]; exact SeAt.new _ _ _ _)
  have CV : Hid (∀ b, decide (lok (n, l, g)) = b → ∀ m : Up W1, Calls Try.prog 15 #[.agg #[.int .i64 n, .slice a l.length c, .int .i64 g]] m.w fun e w' => e = .returned (.bool b) ∧ ∃ m' : Up W1, w' = m'.w) := Lib.hid fun b hb => up_call fun W h => (slval_any n g _ l W (HS.out.below (A1.out.bl.trans (h.mono A1.out.bl.size))) hl).mono fun e w' k => by rw [hb] at k; exact k
  have CR : Hid (∀ b, rvalid r = b → ∀ m : Up W1, Calls Try.prog 46 #[.slice ra r.length rc] m.w fun e w' => e = .returned (.bool b) ∧ ∃ m' : Up W1, w' = m'.w) := Lib.hid fun b hb => up_call fun W h => (svalid_any _ r W (HR.out.below (A1.out.bl.trans (h.mono A1.out.bl.size))) hrl).mono fun e w' k => by rw [hb] at k; exact k
  have CT : Hid (∀ b, decide (0 ≤ t ∧ t ≤ 999) = b → ∀ m : Up W1, Calls Try.prog 37 #[.int .i64 t, .int .i64 0, .int .i64 999] m.w fun e w' => e = .returned (.bool b) ∧ ∃ m' : Up W1, w' = m'.w) := Lib.hid fun b hb => up_call fun W h => (l6In_any t 0 999 W).mono fun e w' k => by rw [hb] at k; exact ⟨k.1, k.2 ▸ Below.refl _ _⟩
  have CD : Hid (∀ b, decide (1 ≤ d ∧ d ≤ 1998) = b → ∀ m : Up W1, Calls Try.prog 37 #[.int .i64 d, .int .i64 1, .int .i64 1998] m.w fun e w' => e = .returned (.bool b) ∧ ∃ m' : Up W1, w' = m'.w) := Lib.hid fun b hb => up_call fun W h => (l6In_any d 1 1998 W).mono fun e w' k => by rw [hb] at k; exact ⟨k.1, k.2 ▸ Below.refl _ _⟩
  clear hW1
  by_cases hv : lok (n, l, g)
  case neg =>
    have CV1 := Lib.hid (CV.out false (decide_eq_false hv))
    have HF := Lib.hid (lackv_no (s := (n, l, g)) (a := r) (now := t) (delay := d) fun h => hv h.1)
    clear hv CV CR CT CD
    go_enter Try.func21, Try.ntmps21
    go_wp2_with fail
    rw [HW1.out]
    have q0 := Up.cell A1.out.x.c0
    have q1 := Up.cell A1.out.x.c1
    have q2 := Up.cell A1.out.x.c2
    refine up_region W1 (Below.refl _ _) (by kernel_rfl) (by kernel_rfl) ?_
    repeat (go_big_quiet_step (first | (go_at_call 15; (with_reducible exact CV1.out _))))
    refine wpQuiet_nil ?_
    rintro W2 ⟨⟨W2x, hb2⟩, hw2⟩
    have hw2' : W2 = W2x := hw2
    subst hw2'
    have A2 := Lib.hid (A1.out.below hb2)
    clear q0 q1 q2 hb2 hw2
    have HZZ := Lib.hid A2.out.z.lt
    have B1 := Lib.hid (below_al W2 (.cells #[] 3))
    have B2 := Lib.hid (below_al (W2.alloc (.cells #[] 3)) (.cells #[] 3))
    have A3 := Lib.hid ((A2.out.below B1.out).below B2.out)
    have es : (W2.alloc (.cells #[] 3)).heap.size = W2.heap.size + 1 := by simp
    have O1 : Hid (OwnI ((W2.alloc (.cells #[] 3)).alloc (.cells #[] 3)) W2.heap.size (.slice (some ⟨W2.heap.size, 0, none⟩) 0 0) []) := Lib.hid ((OwnI.new W2.heap.size W2 (Nat.le_refl _)).below B2.out)
    have O2 : Hid (OwnI ((W2.alloc (.cells #[] 3)).alloc (.cells #[] 3)) W2.heap.size (.slice (some ⟨W2.heap.size + 1, 0, none⟩) 0 0) []) := Lib.hid (by have h := OwnI.new W2.heap.size (W2.alloc (.cells #[] 3)) (by simp); rw [es] at h; exact h)
    clear es
    have RR := Lib.hid (A3.out.res (n' := 0) (g' := 0) (v' := .slice none 0 0))
    have P1 := Lib.hid (OwnI.baseE (own_setE (w := w) (n' := 0) (g' := 0) (v' := .slice none 0 0) O1.out HZZ.out) (by have := HZZ.out; omega : w.heap.size ≤ W2.heap.size))
    have P2 := Lib.hid (OwnI.baseE (own_setE (w := w) (n' := 0) (g' := 0) (v' := .slice none 0 0) O2.out HZZ.out) (by have := HZZ.out; omega : w.heap.size ≤ W2.heap.size))
    obtain ⟨z0, z1, z2⟩ := A2.out.z
    have f0 := A2.out.zf 0
    have f1 := A2.out.zf 1
    have f2 := A2.out.zf 2
    have hz1 : W2.heap.size ≠ w.heap.size + 1 := by have := HZZ.out; omega
    have hz2 : W2.heap.size + 1 ≠ w.heap.size + 1 := by have := HZZ.out; omega
    go_upto_region 2 with fail
    clear z0 z1 z2 f0 f1 f2
    obtain ⟨z0, z1, z2⟩ := A3.out.z
    have f0 := A3.out.zf 0
    have f1 := A3.out.zf 1
    have f2 := A3.out.zf 2
    go_wp2_with fail
    unfold setE at RR P1 P2
    generalize (((((W2.alloc (.cells #[] 3)).alloc (.cells #[] 3)).setCell ⟨w.heap.size + 1, 0, none⟩ (.int .i64 0)).setCell ⟨w.heap.size + 1, 1, none⟩ (.slice none 0 0)).setCell ⟨w.heap.size + 1, 2, none⟩ (.int .i64 0)) = WF at RR P1 P2 ⊢
    clear z0 z1 z2 f0 f1 f2
    obtain ⟨k0, k1, k2⟩ := RR.out.1
    refine bodyPost_ret (v := .tuple #[.agg #[.int .i64 0, .slice none 0 0, .int .i64 0], .slice (some ⟨W2.heap.size, 0, none⟩) 0 0, .slice (some ⟨W2.heap.size + 1, 0, none⟩) 0 0, .bool false]) ?hr rfl ?_
    case hr => rw [results_cttt rfl]; go_simp
    rw [HF.out]
    refine ⟨_, _, _, rfl, OwnPk.nil _ _, P1.out, P2.out, RR.out.2, fun q => ⟨fun e => by simp [Value.ownBlock] at e, fun e e2 => ?_⟩⟩
    simp only [Value.ownBlock, Option.some.injEq] at e e2
    omega
  have CV1 := Lib.hid (CV.out true (decide_eq_true hv))
  cases hrv : rvalid r
  case false =>
    have CR1 := Lib.hid (CR.out false hrv)
    have HF := Lib.hid (lackv_no (s := (n, l, g)) (a := r) (now := t) (delay := d) fun h => by have := h.2.1; rw [hrv] at this; cases this)
    clear hv CV CR CT CD hrv
    go_enter Try.func21, Try.ntmps21
    go_wp2_with fail
    rw [HW1.out]
    have q0 := Up.cell A1.out.x.c0
    have q1 := Up.cell A1.out.x.c1
    have q2 := Up.cell A1.out.x.c2
    refine up_region W1 (Below.refl _ _) (by kernel_rfl) (by kernel_rfl) ?_
    repeat (go_big_quiet_step (first | (go_at_call 15; (with_reducible exact CV1.out _)) | (go_at_call 46; (with_reducible exact CR1.out _))))
    refine wpQuiet_nil ?_
    rintro W2 ⟨⟨W2x, hb2⟩, hw2⟩
    have hw2' : W2 = W2x := hw2
    subst hw2'
    have A2 := Lib.hid (A1.out.below hb2)
    clear q0 q1 q2 hb2 hw2
    have HZZ := Lib.hid A2.out.z.lt
    have B1 := Lib.hid (below_al W2 (.cells #[] 3))
    have B2 := Lib.hid (below_al (W2.alloc (.cells #[] 3)) (.cells #[] 3))
    have A3 := Lib.hid ((A2.out.below B1.out).below B2.out)
    have es : (W2.alloc (.cells #[] 3)).heap.size = W2.heap.size + 1 := by simp
    have O1 : Hid (OwnI ((W2.alloc (.cells #[] 3)).alloc (.cells #[] 3)) W2.heap.size (.slice (some ⟨W2.heap.size, 0, none⟩) 0 0) []) := Lib.hid ((OwnI.new W2.heap.size W2 (Nat.le_refl _)).below B2.out)
    have O2 : Hid (OwnI ((W2.alloc (.cells #[] 3)).alloc (.cells #[] 3)) W2.heap.size (.slice (some ⟨W2.heap.size + 1, 0, none⟩) 0 0) []) := Lib.hid (by have h := OwnI.new W2.heap.size (W2.alloc (.cells #[] 3)) (by simp); rw [es] at h; exact h)
    clear es
    have RR := Lib.hid (A3.out.res (n' := 0) (g' := 0) (v' := .slice none 0 0))
    have P1 := Lib.hid (OwnI.baseE (own_setE (w := w) (n' := 0) (g' := 0) (v' := .slice none 0 0) O1.out HZZ.out) (by have := HZZ.out; omega : w.heap.size ≤ W2.heap.size))
    have P2 := Lib.hid (OwnI.baseE (own_setE (w := w) (n' := 0) (g' := 0) (v' := .slice none 0 0) O2.out HZZ.out) (by have := HZZ.out; omega : w.heap.size ≤ W2.heap.size))
    obtain ⟨z0, z1, z2⟩ := A2.out.z
    have f0 := A2.out.zf 0
    have f1 := A2.out.zf 1
    have f2 := A2.out.zf 2
    have hz1 : W2.heap.size ≠ w.heap.size + 1 := by have := HZZ.out; omega
    have hz2 : W2.heap.size + 1 ≠ w.heap.size + 1 := by have := HZZ.out; omega
    go_upto_region 2 with fail
    clear z0 z1 z2 f0 f1 f2
    obtain ⟨z0, z1, z2⟩ := A3.out.z
    have f0 := A3.out.zf 0
    have f1 := A3.out.zf 1
    have f2 := A3.out.zf 2
    go_wp2_with fail
    unfold setE at RR P1 P2
    generalize (((((W2.alloc (.cells #[] 3)).alloc (.cells #[] 3)).setCell ⟨w.heap.size + 1, 0, none⟩ (.int .i64 0)).setCell ⟨w.heap.size + 1, 1, none⟩ (.slice none 0 0)).setCell ⟨w.heap.size + 1, 2, none⟩ (.int .i64 0)) = WF at RR P1 P2 ⊢
    clear z0 z1 z2 f0 f1 f2
    obtain ⟨k0, k1, k2⟩ := RR.out.1
    refine bodyPost_ret (v := .tuple #[.agg #[.int .i64 0, .slice none 0 0, .int .i64 0], .slice (some ⟨W2.heap.size, 0, none⟩) 0 0, .slice (some ⟨W2.heap.size + 1, 0, none⟩) 0 0, .bool false]) ?hr rfl ?_
    case hr => rw [results_cttt rfl]; go_simp
    rw [HF.out]
    refine ⟨_, _, _, rfl, OwnPk.nil _ _, P1.out, P2.out, RR.out.2, fun q => ⟨fun e => by simp [Value.ownBlock] at e, fun e e2 => ?_⟩⟩
    simp only [Value.ownBlock, Option.some.injEq] at e e2
    omega
  have CR1 := Lib.hid (CR.out true hrv)
  by_cases ht : 0 ≤ t ∧ t ≤ 999
  case neg =>
    have CT1 := Lib.hid (CT.out false (decide_eq_false ht))
    have HF := Lib.hid (lackv_no (s := (n, l, g)) (a := r) (now := t) (delay := d) fun h => ht h.2.2.2.1)
    clear hv CV CR CT CD hrv ht
    go_enter Try.func21, Try.ntmps21
    go_wp2_with fail
    rw [HW1.out]
    have q0 := Up.cell A1.out.x.c0
    have q1 := Up.cell A1.out.x.c1
    have q2 := Up.cell A1.out.x.c2
    refine up_region W1 (Below.refl _ _) (by kernel_rfl) (by kernel_rfl) ?_
    repeat (go_big_quiet_step (first | (go_at_call 15; (with_reducible exact CV1.out _)) | (go_at_call 46; (with_reducible exact CR1.out _)) | (go_at_call 37; (with_reducible exact CT1.out _))))
    refine wpQuiet_nil ?_
    rintro W2 ⟨⟨W2x, hb2⟩, hw2⟩
    have hw2' : W2 = W2x := hw2
    subst hw2'
    have A2 := Lib.hid (A1.out.below hb2)
    clear q0 q1 q2 hb2 hw2
    have HZZ := Lib.hid A2.out.z.lt
    have B1 := Lib.hid (below_al W2 (.cells #[] 3))
    have B2 := Lib.hid (below_al (W2.alloc (.cells #[] 3)) (.cells #[] 3))
    have A3 := Lib.hid ((A2.out.below B1.out).below B2.out)
    have es : (W2.alloc (.cells #[] 3)).heap.size = W2.heap.size + 1 := by simp
    have O1 : Hid (OwnI ((W2.alloc (.cells #[] 3)).alloc (.cells #[] 3)) W2.heap.size (.slice (some ⟨W2.heap.size, 0, none⟩) 0 0) []) := Lib.hid ((OwnI.new W2.heap.size W2 (Nat.le_refl _)).below B2.out)
    have O2 : Hid (OwnI ((W2.alloc (.cells #[] 3)).alloc (.cells #[] 3)) W2.heap.size (.slice (some ⟨W2.heap.size + 1, 0, none⟩) 0 0) []) := Lib.hid (by have h := OwnI.new W2.heap.size (W2.alloc (.cells #[] 3)) (by simp); rw [es] at h; exact h)
    clear es
    have RR := Lib.hid (A3.out.res (n' := 0) (g' := 0) (v' := .slice none 0 0))
    have P1 := Lib.hid (OwnI.baseE (own_setE (w := w) (n' := 0) (g' := 0) (v' := .slice none 0 0) O1.out HZZ.out) (by have := HZZ.out; omega : w.heap.size ≤ W2.heap.size))
    have P2 := Lib.hid (OwnI.baseE (own_setE (w := w) (n' := 0) (g' := 0) (v' := .slice none 0 0) O2.out HZZ.out) (by have := HZZ.out; omega : w.heap.size ≤ W2.heap.size))
    obtain ⟨z0, z1, z2⟩ := A2.out.z
    have f0 := A2.out.zf 0
    have f1 := A2.out.zf 1
    have f2 := A2.out.zf 2
    have hz1 : W2.heap.size ≠ w.heap.size + 1 := by have := HZZ.out; omega
    have hz2 : W2.heap.size + 1 ≠ w.heap.size + 1 := by have := HZZ.out; omega
    go_upto_region 2 with fail
    clear z0 z1 z2 f0 f1 f2
    obtain ⟨z0, z1, z2⟩ := A3.out.z
    have f0 := A3.out.zf 0
    have f1 := A3.out.zf 1
    have f2 := A3.out.zf 2
    go_wp2_with fail
    unfold setE at RR P1 P2
    generalize (((((W2.alloc (.cells #[] 3)).alloc (.cells #[] 3)).setCell ⟨w.heap.size + 1, 0, none⟩ (.int .i64 0)).setCell ⟨w.heap.size + 1, 1, none⟩ (.slice none 0 0)).setCell ⟨w.heap.size + 1, 2, none⟩ (.int .i64 0)) = WF at RR P1 P2 ⊢
    clear z0 z1 z2 f0 f1 f2
    obtain ⟨k0, k1, k2⟩ := RR.out.1
    refine bodyPost_ret (v := .tuple #[.agg #[.int .i64 0, .slice none 0 0, .int .i64 0], .slice (some ⟨W2.heap.size, 0, none⟩) 0 0, .slice (some ⟨W2.heap.size + 1, 0, none⟩) 0 0, .bool false]) ?hr rfl ?_
    case hr => rw [results_cttt rfl]; go_simp
    rw [HF.out]
    refine ⟨_, _, _, rfl, OwnPk.nil _ _, P1.out, P2.out, RR.out.2, fun q => ⟨fun e => by simp [Value.ownBlock] at e, fun e e2 => ?_⟩⟩
    simp only [Value.ownBlock, Option.some.injEq] at e e2
    omega
  have CT1 := Lib.hid (CT.out true (decide_eq_true ht))
  by_cases hdl : 1 ≤ d ∧ d ≤ 1998
  case neg =>
    have CD1 := Lib.hid (CD.out false (decide_eq_false hdl))
    have HF := Lib.hid (lackv_no (s := (n, l, g)) (a := r) (now := t) (delay := d) fun h => hdl h.2.2.2.2)
    clear hv CV CR CT CD hrv ht hdl
    go_enter Try.func21, Try.ntmps21
    go_wp2_with fail
    rw [HW1.out]
    have q0 := Up.cell A1.out.x.c0
    have q1 := Up.cell A1.out.x.c1
    have q2 := Up.cell A1.out.x.c2
    refine up_region W1 (Below.refl _ _) (by kernel_rfl) (by kernel_rfl) ?_
    repeat (go_big_quiet_step (first | (go_at_call 15; (with_reducible exact CV1.out _)) | (go_at_call 46; (with_reducible exact CR1.out _)) | (go_at_call 37; (with_reducible exact CT1.out _)) | (go_at_call 37; (with_reducible exact CD1.out _))))
    refine wpQuiet_nil ?_
    rintro W2 ⟨⟨W2x, hb2⟩, hw2⟩
    have hw2' : W2 = W2x := hw2
    subst hw2'
    have A2 := Lib.hid (A1.out.below hb2)
    clear q0 q1 q2 hb2 hw2
    have HZZ := Lib.hid A2.out.z.lt
    have B1 := Lib.hid (below_al W2 (.cells #[] 3))
    have B2 := Lib.hid (below_al (W2.alloc (.cells #[] 3)) (.cells #[] 3))
    have A3 := Lib.hid ((A2.out.below B1.out).below B2.out)
    have es : (W2.alloc (.cells #[] 3)).heap.size = W2.heap.size + 1 := by simp
    have O1 : Hid (OwnI ((W2.alloc (.cells #[] 3)).alloc (.cells #[] 3)) W2.heap.size (.slice (some ⟨W2.heap.size, 0, none⟩) 0 0) []) := Lib.hid ((OwnI.new W2.heap.size W2 (Nat.le_refl _)).below B2.out)
    have O2 : Hid (OwnI ((W2.alloc (.cells #[] 3)).alloc (.cells #[] 3)) W2.heap.size (.slice (some ⟨W2.heap.size + 1, 0, none⟩) 0 0) []) := Lib.hid (by have h := OwnI.new W2.heap.size (W2.alloc (.cells #[] 3)) (by simp); rw [es] at h; exact h)
    clear es
    have RR := Lib.hid (A3.out.res (n' := 0) (g' := 0) (v' := .slice none 0 0))
    have P1 := Lib.hid (OwnI.baseE (own_setE (w := w) (n' := 0) (g' := 0) (v' := .slice none 0 0) O1.out HZZ.out) (by have := HZZ.out; omega : w.heap.size ≤ W2.heap.size))
    have P2 := Lib.hid (OwnI.baseE (own_setE (w := w) (n' := 0) (g' := 0) (v' := .slice none 0 0) O2.out HZZ.out) (by have := HZZ.out; omega : w.heap.size ≤ W2.heap.size))
    obtain ⟨z0, z1, z2⟩ := A2.out.z
    have f0 := A2.out.zf 0
    have f1 := A2.out.zf 1
    have f2 := A2.out.zf 2
    have hz1 : W2.heap.size ≠ w.heap.size + 1 := by have := HZZ.out; omega
    have hz2 : W2.heap.size + 1 ≠ w.heap.size + 1 := by have := HZZ.out; omega
    go_upto_region 2 with fail
    clear z0 z1 z2 f0 f1 f2
    obtain ⟨z0, z1, z2⟩ := A3.out.z
    have f0 := A3.out.zf 0
    have f1 := A3.out.zf 1
    have f2 := A3.out.zf 2
    go_wp2_with fail
    unfold setE at RR P1 P2
    generalize (((((W2.alloc (.cells #[] 3)).alloc (.cells #[] 3)).setCell ⟨w.heap.size + 1, 0, none⟩ (.int .i64 0)).setCell ⟨w.heap.size + 1, 1, none⟩ (.slice none 0 0)).setCell ⟨w.heap.size + 1, 2, none⟩ (.int .i64 0)) = WF at RR P1 P2 ⊢
    clear z0 z1 z2 f0 f1 f2
    obtain ⟨k0, k1, k2⟩ := RR.out.1
    refine bodyPost_ret (v := .tuple #[.agg #[.int .i64 0, .slice none 0 0, .int .i64 0], .slice (some ⟨W2.heap.size, 0, none⟩) 0 0, .slice (some ⟨W2.heap.size + 1, 0, none⟩) 0 0, .bool false]) ?hr rfl ?_
    case hr => rw [results_cttt rfl]; go_simp
    rw [HF.out]
    refine ⟨_, _, _, rfl, OwnPk.nil _ _, P1.out, P2.out, RR.out.2, fun q => ⟨fun e => by simp [Value.ownBlock] at e, fun e e2 => ?_⟩⟩
    simp only [Value.ownBlock, Option.some.injEq] at e e2
    omega
  have CD1 := Lib.hid (CD.out true (decide_eq_true hdl))
  have h12 : l.length ≤ 12 := hv.2.2.1
  have HTT := Lib.hid (And.intro ht hdl)
  by_cases he : r = []
  case pos =>
    have HF := Lib.hid (lackv_yes (s := (n, l, g)) (a := r) (now := t) (delay := d) ⟨hv, hrv, by rw [he]; show (-1 : Int) < n; have : 0 ≤ n := hv.1.1; omega, ht, hdl⟩)
    have HTP := Lib.hid (show -2000 ≤ topR g r ∧ topR g r ≤ 2000 by rw [he]; have h1 : 0 ≤ n ∧ n ≤ 1000 := hv.1; have h2 : -1 ≤ g ∧ g ≤ n - 1 := hv.2.1; have e : topR g [] = g := rfl; omega)
    have hr0 : r.length = 0 := by rw [he]; rfl
    have hpd : decide ((0 : Int) < (r.length : Int)) = false := decide_eq_false (by omega)
    have hpd' : decide (0 < r.length) = false := decide_eq_false (by omega)
    clear hr0 he
    clear hv CV CR CT CD hrv ht hdl
    go_enter Try.func21, Try.ntmps21
    go_wp2_with fail
    rw [HW1.out]
    have q0 := Up.cell A1.out.x.c0
    have q1 := Up.cell A1.out.x.c1
    have q2 := Up.cell A1.out.x.c2
    refine up_region W1 (Below.refl _ _) (by kernel_rfl) (by kernel_rfl) ?_
    repeat (go_big_quiet_step (first | (go_at_call 15; (with_reducible exact CV1.out _)) | (go_at_call 46; (with_reducible exact CR1.out _)) | (go_at_call 37; (with_reducible exact CT1.out _)) | (go_at_call 37; (with_reducible exact CD1.out _))))
    refine wpQuiet_nil ?_
    rintro W2 ⟨⟨W2x, hb2⟩, hw2⟩
    have hw2' : W2 = W2x := hw2
    subst hw2'
    have A2 := Lib.hid (A1.out.below hb2)
    clear q0 q1 q2 hb2 hw2
    have HZZ := Lib.hid A2.out.z.lt
    obtain ⟨x0, x1, x2⟩ := A2.out.x
    have CK := Lib.hid (slack_any n g t d _ _ l r W2 (HS.out.below A2.out.bl) (HR.out.below A2.out.bl) (by omega) hrl (by have := HTP.out; omega) (by have := HTT.out; omega) (by have := HTT.out; omega))
    go_wp2_with fail
    refine CK.out.mono ?_
    rintro e w3 ⟨v3, gv, lv, rfl, hO, hG, hL, hb3, qv, qg, ql, hqv, hqg, hql, hd1, hd2, hd3⟩
    have A3 := Lib.hid (A2.out.below hb3)
    obtain ⟨r9, hr9⟩ : ∃ r9, lack (n, l, g) r t d = r9 := ⟨_, rfl⟩
    rw [hr9] at hO hG hL HF ⊢
    clear hr9
    obtain ⟨⟨rn, rl, rg⟩, ri, rb⟩ := r9
    simp only at hO hG hL ⊢
    obtain ⟨a3, c3, rfl⟩ := ownsRow_shape hO
    obtain ⟨ag, cg, rfl⟩ := OwnI.shape hG
    obtain ⟨al, cl, rfl⟩ := OwnI.shape hL
    have U := Lib.hid (below_al w3 (.cells #[.int .i64 rn, .slice a3 rl.length c3, .int .i64 rg] 24))
    have X4 := Lib.hid (C3.new w3 (.int .i64 rn) (.slice a3 rl.length c3) (.int .i64 rg) 24)
    have A4 := Lib.hid (A3.out.below U.out)
    have O4 := Lib.hid (hO.below U.out)
    have G4 := Lib.hid (hG.below U.out)
    have L4 := Lib.hid (hL.below U.out)
    have DIS : Hid (Apart3 (.slice a3 rl.length c3) (.slice ag ri.length cg) (.slice al rb.length cl)) := Lib.hid fun q => by
      refine ⟨fun e => ⟨fun e1 => ?_, fun e2 => ?_⟩, fun e1 e2 => ?_⟩
      · rw [hqv] at e; rw [hqg] at e1; exact hd1 ((Option.some.inj e).trans (Option.some.inj e1).symm)
      · rw [hqv] at e; rw [hql] at e2; exact hd2 ((Option.some.inj e).trans (Option.some.inj e2).symm)
      · rw [hqg] at e1; rw [hql] at e2; exact hd3 ((Option.some.inj e1).trans (Option.some.inj e2).symm)
    clear hO hG hL hb3 hqv hqg hql hd1 hd2 hd3 x0 x1 x2
    obtain ⟨y0, y1, y2⟩ := X4.out
    obtain ⟨z0, z1, z2⟩ := A4.out.z
    have f0 := A4.out.zf 0
    have f1 := A4.out.zf 1
    have f2 := A4.out.zf 2
    have RR := Lib.hid (A4.out.res (n' := rn) (g' := rg) (v' := .slice a3 rl.length c3))
    have P0 : Hid (OwnPk _ w.heap.size _ rl) := Lib.hid (OwnPk.lower (own_setE (w := w) (n' := rn) (g' := rg) (v' := .slice a3 rl.length c3) O4.out HZZ.out) (by have := HZZ.out; omega))
    have P1 := Lib.hid (OwnI.baseE (own_setE (w := w) (n' := rn) (g' := rg) (v' := .slice a3 rl.length c3) G4.out HZZ.out) (by have := HZZ.out; omega : w.heap.size ≤ W2.heap.size))
    have P2 := Lib.hid (OwnI.baseE (own_setE (w := w) (n' := rn) (g' := rg) (v' := .slice a3 rl.length c3) L4.out HZZ.out) (by have := HZZ.out; omega : w.heap.size ≤ W2.heap.size))
    go_wp2_with fail
    unfold setE at RR P0 P1 P2
    generalize ((((w3.alloc (.cells #[.int .i64 rn, .slice a3 rl.length c3, .int .i64 rg] 24)).setCell ⟨w.heap.size + 1, 0, none⟩ (.int .i64 rn)).setCell ⟨w.heap.size + 1, 1, none⟩ (.slice a3 rl.length c3)).setCell ⟨w.heap.size + 1, 2, none⟩ (.int .i64 rg)) = WF at RR P0 P1 P2 ⊢
    clear z0 z1 z2 f0 f1 f2 y0 y1 y2
    obtain ⟨k0, k1, k2⟩ := RR.out.1
    refine bodyPost_ret (v := .tuple #[.agg #[.int .i64 rn, .slice a3 rl.length c3, .int .i64 rg], .slice ag ri.length cg, .slice al rb.length cl, .bool true]) ?hr rfl ?_
    case hr => rw [results_cttt rfl]; go_simp
    rw [HF.out]
    exact ⟨_, _, _, rfl, P0.out, P1.out, P2.out, RR.out.2, DIS.out⟩
  have hp : 0 < r.length := List.length_pos_iff.2 he
  obtain ⟨gb, ob, rfl, hc⟩ := HRC.out he
  obtain ⟨d0, d1⟩ := hc (r.length - 1) (by omega)
  have hlast : lastN r = (r.getD (r.length - 1) (0, 0)).2 := by unfold lastN; rw [if_neg he]
  obtain ⟨k, hk⟩ : ∃ k, r.length - 1 = k := ⟨_, rfl⟩
  rw [hk] at d1 hlast
  obtain ⟨z, hz⟩ : ∃ z, (r.getD k (0, 0)).2 = z := ⟨_, rfl⟩
  rw [hz] at d1 hlast
  have HD1 := Lib.hid d1
  have hwk : IntKind.i64.wrap ((r.length : Int) - 1) = (k : Int) := by rw [IntWalk.i64_in _ (by omega)]; omega
  have hkl : (k : Int) < (r.length : Int) := by omega
  have hkl' : k < r.length := by omega
  have hpd : decide ((0 : Int) < (r.length : Int)) = true := decide_eq_true (by omega)
  have hpd' : decide (0 < r.length) = true := decide_eq_true hp
  have hp' : (0 : Int) < (r.length : Int) := by omega
  have HGB : Hid (∀ W, Below w.heap.size w W → W.cell? ⟨gb, ob + k * 2 + 1, none⟩ = some (.int .i64 z)) := Lib.hid fun W h => (h.cell (p := ⟨gb, ob + k * 2 + 1, none⟩) (World.block_lt_of_cell? w _ HD1.out)).trans HD1.out
  by_cases hnz : n ≤ z
  case pos =>
    have hdz := decide_eq_true hnz
    have HF := Lib.hid (lackv_no (s := (n, l, g)) (a := r) (now := t) (delay := d) fun h => by have := h.2.2.1; rw [hlast] at this; simp only at this; omega)
    clear hv CV CR CT CD hrv ht hdl hz hk d0 d1 hc hlast he
    go_enter Try.func21, Try.ntmps21
    go_wp2_with fail
    rw [HW1.out]
    have q0 := Up.cell A1.out.x.c0
    have q1 := Up.cell A1.out.x.c1
    have q2 := Up.cell A1.out.x.c2
    have q3 := Up.cell (HGB.out _ A1.out.bl)
    refine up_region W1 (Below.refl _ _) (by kernel_rfl) (by kernel_rfl) ?_
    repeat (go_big_quiet_step (first | (go_at_call 15; (with_reducible exact CV1.out _)) | (go_at_call 46; (with_reducible exact CR1.out _)) | (go_at_call 37; (with_reducible exact CT1.out _)) | (go_at_call 37; (with_reducible exact CD1.out _))))
    refine wpQuiet_nil ?_
    rintro W2 ⟨⟨W2x, hb2⟩, hw2⟩
    have hw2' : W2 = W2x := hw2
    subst hw2'
    have A2 := Lib.hid (A1.out.below hb2)
    clear q0 q1 q2 hb2 hw2
    clear q3
    have HZZ := Lib.hid A2.out.z.lt
    have B1 := Lib.hid (below_al W2 (.cells #[] 3))
    have B2 := Lib.hid (below_al (W2.alloc (.cells #[] 3)) (.cells #[] 3))
    have A3 := Lib.hid ((A2.out.below B1.out).below B2.out)
    have es : (W2.alloc (.cells #[] 3)).heap.size = W2.heap.size + 1 := by simp
    have O1 : Hid (OwnI ((W2.alloc (.cells #[] 3)).alloc (.cells #[] 3)) W2.heap.size (.slice (some ⟨W2.heap.size, 0, none⟩) 0 0) []) := Lib.hid ((OwnI.new W2.heap.size W2 (Nat.le_refl _)).below B2.out)
    have O2 : Hid (OwnI ((W2.alloc (.cells #[] 3)).alloc (.cells #[] 3)) W2.heap.size (.slice (some ⟨W2.heap.size + 1, 0, none⟩) 0 0) []) := Lib.hid (by have h := OwnI.new W2.heap.size (W2.alloc (.cells #[] 3)) (by simp); rw [es] at h; exact h)
    clear es
    have RR := Lib.hid (A3.out.res (n' := 0) (g' := 0) (v' := .slice none 0 0))
    have P1 := Lib.hid (OwnI.baseE (own_setE (w := w) (n' := 0) (g' := 0) (v' := .slice none 0 0) O1.out HZZ.out) (by have := HZZ.out; omega : w.heap.size ≤ W2.heap.size))
    have P2 := Lib.hid (OwnI.baseE (own_setE (w := w) (n' := 0) (g' := 0) (v' := .slice none 0 0) O2.out HZZ.out) (by have := HZZ.out; omega : w.heap.size ≤ W2.heap.size))
    obtain ⟨z0, z1, z2⟩ := A2.out.z
    have f0 := A2.out.zf 0
    have f1 := A2.out.zf 1
    have f2 := A2.out.zf 2
    have hz1 : W2.heap.size ≠ w.heap.size + 1 := by have := HZZ.out; omega
    have hz2 : W2.heap.size + 1 ≠ w.heap.size + 1 := by have := HZZ.out; omega
    go_upto_region 2 with fail
    clear z0 z1 z2 f0 f1 f2
    obtain ⟨z0, z1, z2⟩ := A3.out.z
    have f0 := A3.out.zf 0
    have f1 := A3.out.zf 1
    have f2 := A3.out.zf 2
    go_wp2_with fail
    unfold setE at RR P1 P2
    generalize (((((W2.alloc (.cells #[] 3)).alloc (.cells #[] 3)).setCell ⟨w.heap.size + 1, 0, none⟩ (.int .i64 0)).setCell ⟨w.heap.size + 1, 1, none⟩ (.slice none 0 0)).setCell ⟨w.heap.size + 1, 2, none⟩ (.int .i64 0)) = WF at RR P1 P2 ⊢
    clear z0 z1 z2 f0 f1 f2
    obtain ⟨k0, k1, k2⟩ := RR.out.1
    refine bodyPost_ret (v := .tuple #[.agg #[.int .i64 0, .slice none 0 0, .int .i64 0], .slice (some ⟨W2.heap.size, 0, none⟩) 0 0, .slice (some ⟨W2.heap.size + 1, 0, none⟩) 0 0, .bool false]) ?hr rfl ?_
    case hr => rw [results_cttt rfl]; go_simp
    rw [HF.out]
    refine ⟨_, _, _, rfl, OwnPk.nil _ _, P1.out, P2.out, RR.out.2, fun q => ⟨fun e => by simp [Value.ownBlock] at e, fun e e2 => ?_⟩⟩
    simp only [Value.ownBlock, Option.some.injEq] at e e2
    omega
  have hdz := decide_eq_false hnz
  have HF := Lib.hid (lackv_yes (s := (n, l, g)) (a := r) (now := t) (delay := d) ⟨hv, hrv, by rw [hlast]; show z < n; omega, ht, hdl⟩)
  have HTP := Lib.hid (show -2000 ≤ topR g r ∧ topR g r ≤ 2000 by have h1 : 0 ≤ n ∧ n ≤ 1000 := hv.1; have h2 : -1 ≤ g ∧ g ≤ n - 1 := hv.2.1; rw [topR_lastN r h2.1, hlast]; omega)
  clear hv CV CR CT CD hrv ht hdl hz hk d0 d1 hc hlast he
  go_enter Try.func21, Try.ntmps21
  go_wp2_with fail
  rw [HW1.out]
  have q0 := Up.cell A1.out.x.c0
  have q1 := Up.cell A1.out.x.c1
  have q2 := Up.cell A1.out.x.c2
  have q3 := Up.cell (HGB.out _ A1.out.bl)
  refine up_region W1 (Below.refl _ _) (by kernel_rfl) (by kernel_rfl) ?_
  repeat (go_big_quiet_step (first | (go_at_call 15; (with_reducible exact CV1.out _)) | (go_at_call 46; (with_reducible exact CR1.out _)) | (go_at_call 37; (with_reducible exact CT1.out _)) | (go_at_call 37; (with_reducible exact CD1.out _))))
  refine wpQuiet_nil ?_
  rintro W2 ⟨⟨W2x, hb2⟩, hw2⟩
  have hw2' : W2 = W2x := hw2
  subst hw2'
  have A2 := Lib.hid (A1.out.below hb2)
  clear q0 q1 q2 hb2 hw2
  clear q3
  have HZZ := Lib.hid A2.out.z.lt
  obtain ⟨x0, x1, x2⟩ := A2.out.x
  have CK := Lib.hid (slack_any n g t d _ _ l r W2 (HS.out.below A2.out.bl) (HR.out.below A2.out.bl) (by omega) hrl (by have := HTP.out; omega) (by have := HTT.out; omega) (by have := HTT.out; omega))
  go_wp2_with fail
  refine CK.out.mono ?_
  rintro e w3 ⟨v3, gv, lv, rfl, hO, hG, hL, hb3, qv, qg, ql, hqv, hqg, hql, hd1, hd2, hd3⟩
  have A3 := Lib.hid (A2.out.below hb3)
  obtain ⟨r9, hr9⟩ : ∃ r9, lack (n, l, g) r t d = r9 := ⟨_, rfl⟩
  rw [hr9] at hO hG hL HF ⊢
  clear hr9
  obtain ⟨⟨rn, rl, rg⟩, ri, rb⟩ := r9
  simp only at hO hG hL ⊢
  obtain ⟨a3, c3, rfl⟩ := ownsRow_shape hO
  obtain ⟨ag, cg, rfl⟩ := OwnI.shape hG
  obtain ⟨al, cl, rfl⟩ := OwnI.shape hL
  have U := Lib.hid (below_al w3 (.cells #[.int .i64 rn, .slice a3 rl.length c3, .int .i64 rg] 24))
  have X4 := Lib.hid (C3.new w3 (.int .i64 rn) (.slice a3 rl.length c3) (.int .i64 rg) 24)
  have A4 := Lib.hid (A3.out.below U.out)
  have O4 := Lib.hid (hO.below U.out)
  have G4 := Lib.hid (hG.below U.out)
  have L4 := Lib.hid (hL.below U.out)
  have DIS : Hid (Apart3 (.slice a3 rl.length c3) (.slice ag ri.length cg) (.slice al rb.length cl)) := Lib.hid fun q => by
    refine ⟨fun e => ⟨fun e1 => ?_, fun e2 => ?_⟩, fun e1 e2 => ?_⟩
    · rw [hqv] at e; rw [hqg] at e1; exact hd1 ((Option.some.inj e).trans (Option.some.inj e1).symm)
    · rw [hqv] at e; rw [hql] at e2; exact hd2 ((Option.some.inj e).trans (Option.some.inj e2).symm)
    · rw [hqg] at e1; rw [hql] at e2; exact hd3 ((Option.some.inj e1).trans (Option.some.inj e2).symm)
  clear hO hG hL hb3 hqv hqg hql hd1 hd2 hd3 x0 x1 x2
  obtain ⟨y0, y1, y2⟩ := X4.out
  obtain ⟨z0, z1, z2⟩ := A4.out.z
  have f0 := A4.out.zf 0
  have f1 := A4.out.zf 1
  have f2 := A4.out.zf 2
  have RR := Lib.hid (A4.out.res (n' := rn) (g' := rg) (v' := .slice a3 rl.length c3))
  have P0 : Hid (OwnPk _ w.heap.size _ rl) := Lib.hid (OwnPk.lower (own_setE (w := w) (n' := rn) (g' := rg) (v' := .slice a3 rl.length c3) O4.out HZZ.out) (by have := HZZ.out; omega))
  have P1 := Lib.hid (OwnI.baseE (own_setE (w := w) (n' := rn) (g' := rg) (v' := .slice a3 rl.length c3) G4.out HZZ.out) (by have := HZZ.out; omega : w.heap.size ≤ W2.heap.size))
  have P2 := Lib.hid (OwnI.baseE (own_setE (w := w) (n' := rn) (g' := rg) (v' := .slice a3 rl.length c3) L4.out HZZ.out) (by have := HZZ.out; omega : w.heap.size ≤ W2.heap.size))
  go_wp2_with fail
  unfold setE at RR P0 P1 P2
  generalize ((((w3.alloc (.cells #[.int .i64 rn, .slice a3 rl.length c3, .int .i64 rg] 24)).setCell ⟨w.heap.size + 1, 0, none⟩ (.int .i64 rn)).setCell ⟨w.heap.size + 1, 1, none⟩ (.slice a3 rl.length c3)).setCell ⟨w.heap.size + 1, 2, none⟩ (.int .i64 rg)) = WF at RR P0 P1 P2 ⊢
  clear z0 z1 z2 f0 f1 f2 y0 y1 y2
  obtain ⟨k0, k1, k2⟩ := RR.out.1
  refine bodyPost_ret (v := .tuple #[.agg #[.int .i64 rn, .slice a3 rl.length c3, .int .i64 rg], .slice ag ri.length cg, .slice al rb.length cl, .bool true]) ?hr rfl ?_
  case hr => rw [results_cttt rfl]; go_simp
  rw [HF.out]
  exact ⟨_, _, _, rfl, P0.out, P1.out, P2.out, RR.out.2, DIS.out⟩

end Go.Proofs.Ytccolpaenmebeaa
