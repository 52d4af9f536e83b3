/- The model's LossSend, LossTimer. -/
import Derived.Test.YtpbkhlkhnjmacabSLv
import Derived.Test.YtpbkhlkhnjmacabSLs
namespace Go.Proofs.Ytpbkhlkhnjmacab
open Go.RowKit
set_option linter.unusedVariables false
set_option linter.unusedSimpArgs false

theorem lsendv_no {s : Ls} {t z : Int} (h : ¬ (lok s ∧ (0 ≤ t ∧ t ≤ 999) ∧ (1 ≤ z ∧ z ≤ 99))) : lsendv s t z = ((0, [], 0), 0, false) := by unfold lsendv; rw [if_neg h]
theorem lsendv_yes {s : Ls} {t z : Int} (h : lok s ∧ (0 ≤ t ∧ t ≤ 999) ∧ (1 ≤ z ∧ z ≤ 99)) : lsendv s t z = lsend s t z := by unfold lsendv; rw [if_pos h]
theorem ltimer_no {s : Ls} {d : Int} (h : ¬ (lok s ∧ (1 ≤ d ∧ d ≤ 1998) ∧ 0 < s.2.1.length ∧ (s.2.1.getD 0 pkD).1 < s.2.2)) : ltimer s d = -1 := by unfold ltimer; rw [if_neg h]
theorem ltimer_yes {s : Ls} {d : Int} (h : lok s ∧ (1 ≤ d ∧ d ≤ 1998) ∧ 0 < s.2.1.length ∧ (s.2.1.getD 0 pkD).1 < s.2.2) : ltimer s d = (s.2.1.getD 0 pkD).2.1 + d := by unfold ltimer; rw [if_pos h]
theorem Pks.lk {w : World} {v : Value} {l : List Pk} (h : Pks w v l) : ∃ a c, v = .slice a l.length c := by
  obtain ⟨a, c, e, _⟩ := h
  exact ⟨a, c, e⟩

set_option maxRecDepth 100000 in
set_option maxHeartbeats 4000000 in
theorem slosssend_any (n g t z : Int) (v : Value) (l : List Pk) (w : World) (hs : Pks w v l) (hnk : NilOk v) (hl : l.length ≤ 1048576) : Calls Try.prog 18 #[.agg #[.int .i64 n, v, .int .i64 g], .int .i64 t, .int .i64 z] w (SendL w (lsendv (n, l, g) t z)) := by
  have HS := Lib.hid hs
  have HNK := Lib.hid hnk
  obtain ⟨a, c, rfl⟩ := hs.lk
  clear hs hnk
  have e1 : (w.alloc (.cells #[.int .i64 n, .slice a l.length c, .int .i64 g] 24)).heap.size = w.heap.size + 1 := by simp
  have X := Lib.hid (show C3 ((w.alloc (.cells #[.int .i64 n, .slice a l.length c, .int .i64 g] 24)).alloc (.cells #[.int .i64 0, .slice none 0 0, .int .i64 0] 24)) w.heap.size (.int .i64 n) (.slice a l.length c) (.int .i64 g) from (C3.new w _ _ _ _).alloc _)
  have Z := Lib.hid (show C3 ((w.alloc (.cells #[.int .i64 n, .slice a l.length c, .int .i64 g] 24)).alloc (.cells #[.int .i64 0, .slice none 0 0, .int .i64 0] 24)) (w.heap.size + 1) (.int .i64 0) (.slice none 0 0) (.int .i64 0) by rw [← e1]; exact C3.new _ _ _ _ _)
  have ZF := Lib.hid (show Soft ((w.alloc (.cells #[.int .i64 n, .slice a l.length c, .int .i64 g] 24)).alloc (.cells #[.int .i64 0, .slice none 0 0, .int .i64 0] 24)) (w.heap.size + 1) by rw [← e1]; exact Soft.new _ _ _)
  have B := Lib.hid (show Below w.heap.size w ((w.alloc (.cells #[.int .i64 n, .slice a l.length c, .int .i64 g] 24)).alloc (.cells #[.int .i64 0, .slice none 0 0, .int .i64 0] 24)) from ((Below.refl _ _).alloc (Nat.le_refl _) _).alloc (by omega) _)
  have HZ1 := Lib.hid (show ((w.alloc (.cells #[.int .i64 n, .slice a l.length c, .int .i64 g] 24)).alloc (.cells #[.int .i64 0, .slice none 0 0, .int .i64 0] 24)).heap.size = w.heap.size + 1 + 1 by simp)
  clear e1
  have HV := Lib.hid (fun W (b : Below w.heap.size w W) => slval_any n g _ l W (HS.out.below b) hl)
  by_cases hv : lok (n, l, g)
  case neg =>
    have HD := Lib.hid (decide_eq_false hv)
    have HF := Lib.hid (lsendv_no (s := (n, l, g)) (t := t) (z := z) (fun h => hv h.1))
    clear hv
    obtain ⟨x0, x1, x2⟩ := X.out
    go_enter Try.func18, Try.ntmps18
    go_wp2_with fail
    refine (HV.out _ B.out).mono ?_
    rw [HD.out]
    rintro e w1 ⟨rfl, hb1⟩
    have X1 := Lib.hid (X.out.below hb1)
    have Z1 := Lib.hid (Z.out.below hb1)
    have ZF1 := Lib.hid (ZF.out.below hb1 Z.out.lt)
    have B1 := Lib.hid (B.out.trans (hb1.mono B.out.size))
    clear hb1 x0 x1 x2
    obtain ⟨x0, x1, x2⟩ := X1.out
    obtain ⟨z0, z1, z2⟩ := Z1.out
    have f0 := ZF1.out 0
    have f1 := ZF1.out 1
    have f2 := ZF1.out 2
    have E := Lib.hid (((Z1.out.set0 (.int .i64 (0))).set1 (.slice none 0 0)).set2 (.int .i64 (0)))
    have EB := Lib.hid (((B1.out.setCell (p := ⟨w.heap.size + 1, 0, none⟩) (Nat.le_succ _) (.int .i64 (0))).setCell (p := ⟨w.heap.size + 1, 1, none⟩) (Nat.le_succ _) (.slice none 0 0)).setCell (p := ⟨w.heap.size + 1, 2, none⟩) (Nat.le_succ _) (.int .i64 (0)))
    go_wp2_with fail
    generalize ((w1.setCell ⟨w.heap.size + 1, 0, none⟩ (.int .i64 (0))).setCell ⟨w.heap.size + 1, 1, none⟩ (.slice none 0 0)).setCell ⟨w.heap.size + 1, 2, none⟩ (.int .i64 (0)) = WF at E EB ⊢
    obtain ⟨k0, k1, k2⟩ := E.out
    refine bodyPost_ret (v := .tuple #[.agg #[.int .i64 0, .slice none 0 0, .int .i64 0], .int .i64 0, .bool false]) ?hr rfl ?_
    case hr => rw [results_ctt rfl]; go_simp
    rw [HF.out]
    exact ⟨_, rfl, OwnPk.nil _ _, EB.out⟩
  have HD := Lib.hid (decide_eq_true hv)
  by_cases ht : 0 ≤ t ∧ t ≤ 999
  case neg =>
    have HT := Lib.hid (decide_eq_false ht)
    have HF := Lib.hid (lsendv_no (s := (n, l, g)) (t := t) (z := z) (fun h => ht h.2.1))
    clear hv ht
    obtain ⟨x0, x1, x2⟩ := X.out
    go_enter Try.func18, Try.ntmps18
    go_wp2_with fail
    refine (HV.out _ B.out).mono ?_
    rw [HD.out]
    rintro e w1 ⟨rfl, hb1⟩
    have X1 := Lib.hid (X.out.below hb1)
    have Z1 := Lib.hid (Z.out.below hb1)
    have ZF1 := Lib.hid (ZF.out.below hb1 Z.out.lt)
    have B1 := Lib.hid (B.out.trans (hb1.mono B.out.size))
    clear hb1 x0 x1 x2
    obtain ⟨x0, x1, x2⟩ := X1.out
    obtain ⟨z0, z1, z2⟩ := Z1.out
    have f0 := ZF1.out 0
    have f1 := ZF1.out 1
    have f2 := ZF1.out 2
    have E := Lib.hid (((Z1.out.set0 (.int .i64 (0))).set1 (.slice none 0 0)).set2 (.int .i64 (0)))
    have EB := Lib.hid (((B1.out.setCell (p := ⟨w.heap.size + 1, 0, none⟩) (Nat.le_succ _) (.int .i64 (0))).setCell (p := ⟨w.heap.size + 1, 1, none⟩) (Nat.le_succ _) (.slice none 0 0)).setCell (p := ⟨w.heap.size + 1, 2, none⟩) (Nat.le_succ _) (.int .i64 (0)))
    go_wp2_with (first | (go_at_call 37; (with_reducible refine (l6In_any t 0 999 _).mono ?_); rw [HT.out]; rintro e w' ⟨rfl, rfl⟩))
    generalize ((w1.setCell ⟨w.heap.size + 1, 0, none⟩ (.int .i64 (0))).setCell ⟨w.heap.size + 1, 1, none⟩ (.slice none 0 0)).setCell ⟨w.heap.size + 1, 2, none⟩ (.int .i64 (0)) = WF at E EB ⊢
    obtain ⟨k0, k1, k2⟩ := E.out
    refine bodyPost_ret (v := .tuple #[.agg #[.int .i64 0, .slice none 0 0, .int .i64 0], .int .i64 0, .bool false]) ?hr rfl ?_
    case hr => rw [results_ctt rfl]; go_simp
    rw [HF.out]
    exact ⟨_, rfl, OwnPk.nil _ _, EB.out⟩
  have HT := Lib.hid (decide_eq_true ht)
  by_cases hz : 1 ≤ z ∧ z ≤ 99
  case neg =>
    have HZ := Lib.hid (decide_eq_false hz)
    have HF := Lib.hid (lsendv_no (s := (n, l, g)) (t := t) (z := z) (fun h => hz h.2.2))
    clear hv ht hz
    obtain ⟨x0, x1, x2⟩ := X.out
    go_enter Try.func18, Try.ntmps18
    go_wp2_with fail
    refine (HV.out _ B.out).mono ?_
    rw [HD.out]
    rintro e w1 ⟨rfl, hb1⟩
    have X1 := Lib.hid (X.out.below hb1)
    have Z1 := Lib.hid (Z.out.below hb1)
    have ZF1 := Lib.hid (ZF.out.below hb1 Z.out.lt)
    have B1 := Lib.hid (B.out.trans (hb1.mono B.out.size))
    clear hb1 x0 x1 x2
    obtain ⟨x0, x1, x2⟩ := X1.out
    obtain ⟨z0, z1, z2⟩ := Z1.out
    have f0 := ZF1.out 0
    have f1 := ZF1.out 1
    have f2 := ZF1.out 2
    have E := Lib.hid (((Z1.out.set0 (.int .i64 (0))).set1 (.slice none 0 0)).set2 (.int .i64 (0)))
    have EB := Lib.hid (((B1.out.setCell (p := ⟨w.heap.size + 1, 0, none⟩) (Nat.le_succ _) (.int .i64 (0))).setCell (p := ⟨w.heap.size + 1, 1, none⟩) (Nat.le_succ _) (.slice none 0 0)).setCell (p := ⟨w.heap.size + 1, 2, none⟩) (Nat.le_succ _) (.int .i64 (0)))
    go_wp2_with (first | (go_at_call 37; (with_reducible refine (l6In_any t 0 999 _).mono ?_); rw [HT.out]; rintro e w' ⟨rfl, rfl⟩) | (go_at_call 37; (with_reducible refine (l6In_any z 1 99 _).mono ?_); rw [HZ.out]; rintro e w' ⟨rfl, rfl⟩))
    generalize ((w1.setCell ⟨w.heap.size + 1, 0, none⟩ (.int .i64 (0))).setCell ⟨w.heap.size + 1, 1, none⟩ (.slice none 0 0)).setCell ⟨w.heap.size + 1, 2, none⟩ (.int .i64 (0)) = WF at E EB ⊢
    obtain ⟨k0, k1, k2⟩ := E.out
    refine bodyPost_ret (v := .tuple #[.agg #[.int .i64 0, .slice none 0 0, .int .i64 0], .int .i64 0, .bool false]) ?hr rfl ?_
    case hr => rw [results_ctt rfl]; go_simp
    rw [HF.out]
    exact ⟨_, rfl, OwnPk.nil _ _, EB.out⟩
  have HZ := Lib.hid (decide_eq_true hz)
  have HF := Lib.hid (lsendv_yes (s := (n, l, g)) (t := t) (z := z) ⟨hv, ht, hz⟩)
  have HQ := Lib.hid (fun W (b : Below w.heap.size w W) => slsend_any n g t z _ l W (HS.out.below b) HNK.out hl ⟨by have := hv.1; simp only at this; omega, by have := hv.1; simp only at this; omega⟩)
  clear hv ht hz
  obtain ⟨x0, x1, x2⟩ := X.out
  go_enter Try.func18, Try.ntmps18
  go_wp2_with fail
  refine (HV.out _ B.out).mono ?_
  rw [HD.out]
  rintro e w1 ⟨rfl, hb1⟩
  have X1 := Lib.hid (X.out.below hb1)
  have Z1 := Lib.hid (Z.out.below hb1)
  have ZF1 := Lib.hid (ZF.out.below hb1 Z.out.lt)
  have B1 := Lib.hid (B.out.trans (hb1.mono B.out.size))
  clear hb1 x0 x1 x2
  obtain ⟨x0, x1, x2⟩ := X1.out
  obtain ⟨z0, z1, z2⟩ := Z1.out
  have f0 := ZF1.out 0
  have f1 := ZF1.out 1
  have f2 := ZF1.out 2
  go_wp2_with (first | (go_at_call 37; (with_reducible refine (l6In_any t 0 999 _).mono ?_); rw [HT.out]; rintro e w' ⟨rfl, rfl⟩) | (go_at_call 37; (with_reducible refine (l6In_any z 1 99 _).mono ?_); rw [HZ.out]; rintro e w' ⟨rfl, rfl⟩))
  refine (HQ.out _ B1.out).mono ?_
  rintro e w2 ⟨v2, rfl, ho, hb⟩
  have LT1 := Lib.hid (Z1.out.lt)
  obtain ⟨a2, c2, rfl⟩ := OwnPk.shape ho
  have hw : ∀ q, q = w.heap.size + 1 → (Value.slice a2 (lsend (n, l, g) t z).1.2.1.length c2).ownBlock ≠ some q := fun q h e => by have := (World.ownsRow.lt ho q e).1; have := HZ1.out; have := LT1.out; omega
  have HO := Lib.hid (OwnPk.lower ho B1.out.size)
  have HB := Lib.hid (B1.out.trans (hb.mono B1.out.size))
  have Z2 := Lib.hid (Z1.out.below hb)
  have ZF2 := Lib.hid (ZF1.out.below hb Z1.out.lt)
  have EO := Lib.hid (((HO.out.far (i := 0) (u := .int .i64 (lsend (n, l, g) t z).1.1) (hw _ rfl)).far (i := 1) (u := .slice a2 (lsend (n, l, g) t z).1.2.1.length c2) (hw _ rfl)).far (i := 2) (u := .int .i64 (lsend (n, l, g) t z).1.2.2) (hw _ rfl))
  have E := Lib.hid (((Z2.out.set0 (.int .i64 ((lsend (n, l, g) t z).1.1))).set1 (.slice a2 (lsend (n, l, g) t z).1.2.1.length c2)).set2 (.int .i64 ((lsend (n, l, g) t z).1.2.2)))
  have EB := Lib.hid (((HB.out.setCell (p := ⟨w.heap.size + 1, 0, none⟩) (Nat.le_succ _) (.int .i64 ((lsend (n, l, g) t z).1.1))).setCell (p := ⟨w.heap.size + 1, 1, none⟩) (Nat.le_succ _) (.slice a2 (lsend (n, l, g) t z).1.2.1.length c2)).setCell (p := ⟨w.heap.size + 1, 2, none⟩) (Nat.le_succ _) (.int .i64 ((lsend (n, l, g) t z).1.2.2)))
  clear ho hb hw x0 x1 x2 z0 z1 z2 f0 f1 f2
  generalize lsend (n, l, g) t z = r at EO E EB HF ⊢
  obtain ⟨⟨n2, l2, g2⟩, m, u⟩ := r
  simp only at EO E EB HF ⊢
  obtain ⟨z0, z1, z2⟩ := Z2.out
  have f0 := ZF2.out 0
  have f1 := ZF2.out 1
  have f2 := ZF2.out 2
  go_wp2_with fail
  generalize ((w2.setCell ⟨w.heap.size + 1, 0, none⟩ (.int .i64 (n2))).setCell ⟨w.heap.size + 1, 1, none⟩ (.slice a2 l2.length c2)).setCell ⟨w.heap.size + 1, 2, none⟩ (.int .i64 (g2)) = WF at E EO EB ⊢
  obtain ⟨k0, k1, k2⟩ := E.out
  refine bodyPost_ret (v := .tuple #[.agg #[.int .i64 n2, .slice a2 l2.length c2, .int .i64 g2], .int .i64 m, .bool u]) ?hr rfl ?_
  case hr => rw [results_ctt rfl]; go_simp
  rw [HF.out]
  exact ⟨_, rfl, EO.out, EB.out⟩

set_option maxRecDepth 100000 in
set_option maxHeartbeats 4000000 in
theorem sltimer_any (n g d : Int) (v : Value) (l : List Pk) (w : World) (hs : Pks w v l) (hl : l.length ≤ 1048576) : Calls Try.prog 29 #[.agg #[.int .i64 n, v, .int .i64 g], .int .i64 d] w fun e w' => e = .returned (.int .i64 (ltimer (n, l, g) d)) ∧ Below w.heap.size w w' := by
  have HS := Lib.hid hs
  obtain ⟨a, c, rfl, hcc, hs⟩ := hs
  have HC := Lib.hid hs
  clear hs
  have X := Lib.hid (C3.new w (.int .i64 n) (.slice a l.length c) (.int .i64 g) 24)
  have B := Lib.hid ((Below.refl w.heap.size w).alloc (Nat.le_refl _) (.cells #[.int .i64 n, .slice a l.length c, .int .i64 g] 24))
  have HV := Lib.hid (fun W (b : Below w.heap.size w W) => slval_any n g _ l W (HS.out.below b) hl)
  by_cases hv : lok (n, l, g)
  case neg =>
    have HD := Lib.hid (decide_eq_false hv)
    have HF := Lib.hid (ltimer_no (s := (n, l, g)) (d := d) (fun h => hv h.1))
    clear hv
    obtain ⟨x0, x1, x2⟩ := X.out
    go_enter Try.func29, Try.ntmps29
    go_wp2_with fail
    obtain ⟨W1, hW1⟩ : ∃ W1, W1 = w.alloc (.cells #[.int .i64 n, (.slice a l.length c), .int .i64 g] 24) := ⟨_, rfl⟩
    rw [← hW1] at X B ⊢
    clear hW1 x0 x1 x2
    have C1 : Hid (∀ m : Up W1, Calls Try.prog 15 #[.agg #[.int .i64 n, (.slice a l.length c), .int .i64 g]] m.w fun e w' => e = .returned (.bool false) ∧ ∃ m' : Up W1, w' = m'.w) := Lib.hid (up_call fun W hb => (HV.out W (B.out.trans (hb.mono B.out.size))).mono fun e w' h => by rw [HD.out] at h; exact h)
    have q0 := Up.cell X.out.c0
    have q1 := Up.cell X.out.c1
    have q2 := Up.cell X.out.c2
    refine up_region W1 (Below.refl _ _) (by kernel_rfl) (by kernel_rfl) ?_
    repeat (go_big_quiet_step ((first | (go_at_call 15; (with_reducible exact C1.out _)))))
    refine wpQuiet_nil ?_
    rintro _ ⟨⟨W2, hb2⟩, rfl⟩
    have X2 := Lib.hid (X.out.below hb2)
    have B2 := Lib.hid (B.out.trans (hb2.mono B.out.size))
    obtain ⟨x0, x1, x2⟩ := X2.out
    clear q0 q1 q2
    go_wp2_with fail
    go_ret
    exact ⟨ret_int HF.out.symm, B2.out⟩
  have HD := Lib.hid (decide_eq_true hv)
  by_cases ht : 1 ≤ d ∧ d ≤ 1998
  case neg =>
    have HT := Lib.hid (decide_eq_false ht)
    have HF := Lib.hid (ltimer_no (s := (n, l, g)) (d := d) (fun h => ht h.2.1))
    clear hv ht
    obtain ⟨x0, x1, x2⟩ := X.out
    go_enter Try.func29, Try.ntmps29
    go_wp2_with fail
    obtain ⟨W1, hW1⟩ : ∃ W1, W1 = w.alloc (.cells #[.int .i64 n, (.slice a l.length c), .int .i64 g] 24) := ⟨_, rfl⟩
    rw [← hW1] at X B ⊢
    clear hW1 x0 x1 x2
    have C1 : Hid (∀ m : Up W1, Calls Try.prog 15 #[.agg #[.int .i64 n, (.slice a l.length c), .int .i64 g]] m.w fun e w' => e = .returned (.bool true) ∧ ∃ m' : Up W1, w' = m'.w) := Lib.hid (up_call fun W hb => (HV.out W (B.out.trans (hb.mono B.out.size))).mono fun e w' h => by rw [HD.out] at h; exact h)
    have C2 : Hid (∀ m : Up W1, Calls Try.prog 37 #[.int .i64 d, .int .i64 1, .int .i64 1998] m.w fun e w' => e = .returned (.bool false) ∧ ∃ m' : Up W1, w' = m'.w) := Lib.hid (up_call fun W _ => (l6In_any d 1 1998 W).mono fun e w' h => by rw [HT.out] at h; exact ⟨h.1, h.2 ▸ Below.refl _ _⟩)
    have q0 := Up.cell X.out.c0
    have q1 := Up.cell X.out.c1
    have q2 := Up.cell X.out.c2
    refine up_region W1 (Below.refl _ _) (by kernel_rfl) (by kernel_rfl) ?_
    repeat (go_big_quiet_step ((first | (go_at_call 15; (with_reducible exact C1.out _)) | (go_at_call 37; (with_reducible exact C2.out _)))))
    refine wpQuiet_nil ?_
    rintro _ ⟨⟨W2, hb2⟩, rfl⟩
    have X2 := Lib.hid (X.out.below hb2)
    have B2 := Lib.hid (B.out.trans (hb2.mono B.out.size))
    obtain ⟨x0, x1, x2⟩ := X2.out
    clear q0 q1 q2
    go_wp2_with fail
    go_ret
    exact ⟨ret_int HF.out.symm, B2.out⟩
  have HT := Lib.hid (decide_eq_true ht)
  by_cases hz : l.length = 0
  case pos =>
    have HF := Lib.hid (ltimer_no (s := (n, l, g)) (d := d) (fun h => by have := h.2.2.1; simp only at this; omega))
    have hd5 : ((l.length : Int) == 0) = true := by rw [beq_iff_eq]; omega
    clear hv ht hz
    obtain ⟨x0, x1, x2⟩ := X.out
    go_enter Try.func29, Try.ntmps29
    go_wp2_with fail
    obtain ⟨W1, hW1⟩ : ∃ W1, W1 = w.alloc (.cells #[.int .i64 n, (.slice a l.length c), .int .i64 g] 24) := ⟨_, rfl⟩
    rw [← hW1] at X B ⊢
    clear hW1 x0 x1 x2
    have C1 : Hid (∀ m : Up W1, Calls Try.prog 15 #[.agg #[.int .i64 n, (.slice a l.length c), .int .i64 g]] m.w fun e w' => e = .returned (.bool true) ∧ ∃ m' : Up W1, w' = m'.w) := Lib.hid (up_call fun W hb => (HV.out W (B.out.trans (hb.mono B.out.size))).mono fun e w' h => by rw [HD.out] at h; exact h)
    have C2 : Hid (∀ m : Up W1, Calls Try.prog 37 #[.int .i64 d, .int .i64 1, .int .i64 1998] m.w fun e w' => e = .returned (.bool true) ∧ ∃ m' : Up W1, w' = m'.w) := Lib.hid (up_call fun W _ => (l6In_any d 1 1998 W).mono fun e w' h => by rw [HT.out] at h; exact ⟨h.1, h.2 ▸ Below.refl _ _⟩)
    have q0 := Up.cell X.out.c0
    have q1 := Up.cell X.out.c1
    have q2 := Up.cell X.out.c2
    refine up_region W1 (Below.refl _ _) (by kernel_rfl) (by kernel_rfl) ?_
    repeat (go_big_quiet_step ((first | (go_at_call 15; (with_reducible exact C1.out _)) | (go_at_call 37; (with_reducible exact C2.out _)))))
    refine wpQuiet_nil ?_
    rintro _ ⟨⟨W2, hb2⟩, rfl⟩
    have X2 := Lib.hid (X.out.below hb2)
    have B2 := Lib.hid (B.out.trans (hb2.mono B.out.size))
    obtain ⟨x0, x1, x2⟩ := X2.out
    clear q0 q1 q2
    go_wp2_with fail
    go_ret
    exact ⟨ret_int HF.out.symm, B2.out⟩
  have hd5 : ((l.length : Int) == 0) = false := by rw [beq_eq_false_iff_ne]; omega
  have hlp : 0 < l.length := by omega
  have hlp' : (0 : Int) < (l.length : Int) := by omega
  obtain ⟨gb, ob, rfl, hc⟩ := HC.out (by rintro rfl; simp at hz)
  obtain ⟨d0, d1, d2⟩ := hc 0 hlp
  have hgl := World.block_lt_of_cell? w _ d0
  have HG := Lib.hid (fun W (b : Below w.heap.size w W) => (⟨(b.cell (p := ⟨gb, ob + 0 * 3, none⟩) hgl).trans d0, (b.cell (p := ⟨gb, ob + 0 * 3 + 1, none⟩) hgl).trans d1⟩ : W.cell? ⟨gb, ob + 0 * 3, none⟩ = some (.int .i64 (l.getD 0 pkD).1) ∧ W.cell? ⟨gb, ob + 0 * 3 + 1, none⟩ = some (.int .i64 (l.getD 0 pkD).2.1)))
  have HT0 := Lib.hid (hv.2.2.2.1 (l.getD 0 pkD) (takeP l 0 hlp).2)
  have HX : Hid (ltimer (n, l, g) d = if (l.getD 0 pkD).1 < g then (l.getD 0 pkD).2.1 + d else -1) := Lib.hid (by
    by_cases k : (l.getD 0 pkD).1 < g
    · rw [if_pos k]; exact ltimer_yes ⟨hv, ht, hlp, k⟩
    · rw [if_neg k]; exact ltimer_no (fun h => k h.2.2.2))
  clear hc d0 d1 d2 hgl hz hcc HC
  obtain ⟨p, hp⟩ : ∃ p, l.getD 0 pkD = p := ⟨_, rfl⟩
  rw [hp] at HG HT0 HX
  clear hp
  obtain ⟨x, y, z⟩ := p
  simp only at HG HT0 HX
  simp only [Nat.zero_mul, Nat.add_zero] at HG
  by_cases k : x < g
  case neg =>
    have HF := Lib.hid (HX.out.trans (if_neg k))
    have hd6 : decide (g ≤ x) = true := decide_eq_true (by omega)
    clear hv ht
    obtain ⟨x0, x1, x2⟩ := X.out
    go_enter Try.func29, Try.ntmps29
    go_wp2_with fail
    obtain ⟨W1, hW1⟩ : ∃ W1, W1 = w.alloc (.cells #[.int .i64 n, (.slice (some ⟨gb, ob, none⟩) l.length c), .int .i64 g] 24) := ⟨_, rfl⟩
    rw [← hW1] at X B ⊢
    clear hW1 x0 x1 x2
    have C1 : Hid (∀ m : Up W1, Calls Try.prog 15 #[.agg #[.int .i64 n, (.slice (some ⟨gb, ob, none⟩) l.length c), .int .i64 g]] m.w fun e w' => e = .returned (.bool true) ∧ ∃ m' : Up W1, w' = m'.w) := Lib.hid (up_call fun W hb => (HV.out W (B.out.trans (hb.mono B.out.size))).mono fun e w' h => by rw [HD.out] at h; exact h)
    have C2 : Hid (∀ m : Up W1, Calls Try.prog 37 #[.int .i64 d, .int .i64 1, .int .i64 1998] m.w fun e w' => e = .returned (.bool true) ∧ ∃ m' : Up W1, w' = m'.w) := Lib.hid (up_call fun W _ => (l6In_any d 1 1998 W).mono fun e w' h => by rw [HT.out] at h; exact ⟨h.1, h.2 ▸ Below.refl _ _⟩)
    obtain ⟨e0, e1⟩ := HG.out _ B.out
    have v0 := Up.cell e0
    have v1 := Up.cell e1
    clear e0 e1
    have q0 := Up.cell X.out.c0
    have q1 := Up.cell X.out.c1
    have q2 := Up.cell X.out.c2
    refine up_region W1 (Below.refl _ _) (by kernel_rfl) (by kernel_rfl) ?_
    repeat (go_big_quiet_step ((first | (go_at_call 15; (with_reducible exact C1.out _)) | (go_at_call 37; (with_reducible exact C2.out _)))))
    refine wpQuiet_nil ?_
    rintro _ ⟨⟨W2, hb2⟩, rfl⟩
    have X2 := Lib.hid (X.out.below hb2)
    have B2 := Lib.hid (B.out.trans (hb2.mono B.out.size))
    obtain ⟨e0, e1⟩ := HG.out _ B2.out
    obtain ⟨x0, x1, x2⟩ := X2.out
    clear q0 q1 q2
    go_wp2_with fail
    go_ret
    exact ⟨ret_int HF.out.symm, B2.out⟩
  have HF := Lib.hid (HX.out.trans (if_pos k))
  have hd6 : decide (g ≤ x) = false := decide_eq_false (by omega)
  have hy := HT0.out.2.1
  simp only at hy
  have hw6 : IntKind.i64.wrap (y + d) = y + d := IntWalk.i64_in _ (by omega)
  clear hv hy ht
  obtain ⟨x0, x1, x2⟩ := X.out
  go_enter Try.func29, Try.ntmps29
  go_wp2_with fail
  obtain ⟨W1, hW1⟩ : ∃ W1, W1 = w.alloc (.cells #[.int .i64 n, (.slice (some ⟨gb, ob, none⟩) l.length c), .int .i64 g] 24) := ⟨_, rfl⟩
  rw [← hW1] at X B ⊢
  clear hW1 x0 x1 x2
  have C1 : Hid (∀ m : Up W1, Calls Try.prog 15 #[.agg #[.int .i64 n, (.slice (some ⟨gb, ob, none⟩) l.length c), .int .i64 g]] m.w fun e w' => e = .returned (.bool true) ∧ ∃ m' : Up W1, w' = m'.w) := Lib.hid (up_call fun W hb => (HV.out W (B.out.trans (hb.mono B.out.size))).mono fun e w' h => by rw [HD.out] at h; exact h)
  have C2 : Hid (∀ m : Up W1, Calls Try.prog 37 #[.int .i64 d, .int .i64 1, .int .i64 1998] m.w fun e w' => e = .returned (.bool true) ∧ ∃ m' : Up W1, w' = m'.w) := Lib.hid (up_call fun W _ => (l6In_any d 1 1998 W).mono fun e w' h => by rw [HT.out] at h; exact ⟨h.1, h.2 ▸ Below.refl _ _⟩)
  obtain ⟨e0, e1⟩ := HG.out _ B.out
  have v0 := Up.cell e0
  have v1 := Up.cell e1
  clear e0 e1
  have q0 := Up.cell X.out.c0
  have q1 := Up.cell X.out.c1
  have q2 := Up.cell X.out.c2
  refine up_region W1 (Below.refl _ _) (by kernel_rfl) (by kernel_rfl) ?_
  repeat (go_big_quiet_step ((first | (go_at_call 15; (with_reducible exact C1.out _)) | (go_at_call 37; (with_reducible exact C2.out _)))))
  refine wpQuiet_nil ?_
  rintro _ ⟨⟨W2, hb2⟩, rfl⟩
  have X2 := Lib.hid (X.out.below hb2)
  have B2 := Lib.hid (B.out.trans (hb2.mono B.out.size))
  obtain ⟨e0, e1⟩ := HG.out _ B2.out
  obtain ⟨x0, x1, x2⟩ := X2.out
  clear q0 q1 q2
  go_wp2_with fail
  go_ret
  exact ⟨ret_int HF.out.symm, B2.out⟩

end Go.Proofs.Ytpbkhlkhnjmacab
