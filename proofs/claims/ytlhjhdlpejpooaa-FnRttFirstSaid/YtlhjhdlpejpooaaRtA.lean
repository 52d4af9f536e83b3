/- The estimate's methods: unsampled, smoothed, start; isSample. -/
import Derived.Test.YtlhjhdlpejpooaaRtMath
import Derived.Test.YtlhjhdlpejpooaaUp
import Derived.StillTail
import Derived.StillTailTactics
namespace Go.Proofs.Ytlhjhdlpejpooaa
open Go.RowKit
set_option linter.unusedVariables false
set_option linter.unusedSimpArgs false

set_option maxRecDepth 100000 in
set_option maxHeartbeats 1000000 in
theorem isSample_any (n : Int) (w : World) : Calls Try.prog 34 #[.int .i64 n] w fun e w' => e = .returned (.bool (decide (1 ≤ n ∧ n ≤ 999))) ∧ w = w' := by
  by_cases h0 : 1 ≤ n
  · by_cases h1 : n ≤ 999
    · have d0 := decide_eq_true h0
      have d1 := decide_eq_true h1
      go_enter Try.func34, Try.ntmps34
      go_wp2
      go_ret
      exact ⟨ret_bool (decide_eq_true ⟨h0, h1⟩).symm, rfl⟩
    · have d0 := decide_eq_true h0
      have d1 := decide_eq_false h1
      go_enter Try.func34, Try.ntmps34
      go_wp2
      go_ret
      exact ⟨ret_bool (by first | rfl | (symm; simp; omega)), rfl⟩
  · have d0 := decide_eq_false h0
    go_enter Try.func34, Try.ntmps34
    go_wp2
    go_ret
    exact ⟨ret_bool (by first | rfl | (symm; simp; omega)), rfl⟩

set_option maxRecDepth 100000 in
set_option maxHeartbeats 1000000 in
theorem smoothed_any (p : Nat) (a b c d : Int) (w : World) (h : R4 w p a b c d) : Calls Try.prog 41 #[.pointer (some ⟨p, 0, none⟩)] w fun e w' => e = .returned (.int .i64 (wrap64 (c.tdiv 8))) ∧ w = w' := by
  obtain ⟨c0, c1, c2, c3, fz⟩ := h
  go_enter Try.func41, Try.ntmps41
  go_wp2
  go_ret
  exact ⟨rfl, rfl⟩

set_option maxRecDepth 100000 in
set_option maxHeartbeats 1000000 in
theorem unsampled_any (p : Nat) (a b c d : Int) (w : World) (h : R4 w p a b c d) : Calls Try.prog 36 #[.pointer (some ⟨p, 0, none⟩)] w fun e w' => e = .returned (.bool (decide (rz a b c d))) ∧ w = w' := by
  obtain ⟨c0, c1, c2, c3, fz⟩ := h
  go_enter Try.func36, Try.ntmps36
  go_wp2
  all_goals
    go_ret
    exact ⟨ret_bool (by unfold rz; symm; simp [*]), rfl⟩

set_option maxRecDepth 100000 in
set_option maxHeartbeats 1000000 in
theorem start_any (p : Nat) (a b c d s : Int) (w : World) (h : R4 w p a b c d) (hs : 1 ≤ s ∧ s ≤ 999) : Calls Try.prog 37 #[.pointer (some ⟨p, 0, none⟩), .int .i64 s] w fun e w' => e = .returned (.tuple #[]) ∧ R4 w' p s s (8 * s) (2 * s) ∧ Off p w w' := by
  have H := Lib.hid h
  obtain ⟨c0, c1, c2, c3, fz⟩ := h
  have f0 := fz 0
  have f1 := fz 1
  have f2 := fz 2
  have f3 := fz 3
  obtain ⟨h1, h2⟩ := hs
  have HE := Lib.hid (show 4 * s / 2 = 2 * s by omega)
  go_enter Try.func37, Try.ntmps37
  go_wp2
  rw [HE.out]
  go_end0
  exact ⟨rfl, (((H.out.set0 s).set1 s).set2 (8 * s)).set3 (2 * s), ((((Off.refl p w).set _ _).set _ _).set _ _).set _ _⟩

set_option maxRecDepth 100000 in
set_option maxHeartbeats 1000000 in
theorem add_any (p : Nat) (a b c d s y : Int) (w : World) (h : R4 w p a b c d) (hk : rs a b c d) (hs : 1 ≤ s ∧ s ≤ 999) (hy : 0 ≤ y ∧ y ≤ 999) : Calls Try.prog 38 #[.pointer (some ⟨p, 0, none⟩), .int .i64 s, .int .i64 y] w fun e w' => e = .returned (.tuple #[]) ∧ R4 w' p s (min b s) (c - c / 8 + un b s y) (d - d / 4 + max (c / 8 - un b s y) (un b s y - c / 8)) ∧ Off p w w' := by
  have H := Lib.hid h
  obtain ⟨c0, c1, c2, c3, fz⟩ := h
  have f0 := fz 0
  have f1 := fz 1
  have f2 := fz 2
  have f3 := fz 3
  obtain ⟨h1, h2⟩ := hs
  obtain ⟨h3, h4⟩ := hy
  obtain ⟨⟨k1, k2⟩, ⟨k3, k4⟩, ⟨k5, k6⟩, k7, k8⟩ := hk
  obtain ⟨m, hm⟩ : ∃ m, (if s < b then s else b) = m := ⟨_, rfl⟩
  have hm1 : min b s = m := by rw [← hm]; split <;> omega
  have hm2 : 1 ≤ m := by omega
  have hm3 : m ≤ s := by omega
  have HU := Lib.hid (show un b s y = if s - y < m then s else s - y by unfold un; rw [hm1])
  have HM := Lib.hid hm1
  have HS := Lib.hid (sm_pos (c := c) (by omega) (by omega))
  clear hm1
  have c83 : 1 ≤ c / 8 := by omega
  have c84 : c / 8 ≤ 999 := by omega
  by_cases hn : s - y < m
  · have HN := Lib.hid (show un b s y = s by rw [HU.out, if_pos hn])
    clear HU
    have hn1 : 1 ≤ s := by omega
    have hn2 : s ≤ 999 := by omega
    obtain ⟨o, ho⟩ : ∃ o, c / 8 - s = o := ⟨_, rfl⟩
    have hw2 : IntKind.i64.wrap (-o) = -o := IntWalk.i64_in _ (by omega)
    have HD : Hid (IntKind.i64.wrap (d.tdiv 4) = d / 4) := Lib.hid (by rw [Int.tdiv_eq_ediv_of_nonneg k7]; exact IntWalk.i64_in _ (by omega))
    have ho1 : -1000 ≤ o := by omega
    have ho2 : o ≤ 1000 := by omega
    have HO : Hid (max (c / 8 - s) (s - c / 8) = max o (-o)) := Lib.hid (by omega)
    have H8 := Lib.hid ho
    clear ho
    have d41 : 0 ≤ d / 4 := by omega
    have d42 : d / 4 ≤ 1000 := by omega
    by_cases hc : o < -o
    · have hx : (o < -o) = True := eq_true hc
      have HX : Hid (max o (-o) = -o) := Lib.hid (by omega)
      go_enter Try.func38, Try.ntmps38
      go_wp2_with fail
      have H2 := Lib.hid ((H.out.set0 s).set1 m)
      have O2 := Lib.hid (((Off.refl p w).set 0 (.int .i64 s)).set 1 (.int .i64 m))
      refine (smoothed_any p _ _ _ _ _ H2.out).mono ?_
      rw [HS.out]
      rintro e w1 ⟨rfl, hw⟩
      rw [hw] at H2 O2
      clear hw c0 c1 c2 c3 fz f0 f1 f2 f3 H
      go_wp2_with fail
      rw [H8.out]
      refine wp_region_still_tail 15 (by kernel_rfl) (by kernel_rfl) ?_
      obtain ⟨W2, hW2⟩ : ∃ W2, ({ w1 with drawn := w1.drawn + 1 } : World) = W2 := ⟨_, rfl⟩
      have H3 := Lib.hid (show R4 W2 p s m c d by rw [← hW2]; exact H2.out.drew 1)
      have O3 := Lib.hid (show Off p w W2 by rw [← hW2]; exact O2.out.drew 1)
      rw [hW2]
      clear hW2 H2 O2
      obtain ⟨c0, c1, c2, c3, fz⟩ := id H3.out
      have f3 := fz 3
      have hd4 := HD.out
      simp only [List.take_succ_cons, List.take_zero, List.drop_succ_cons, List.drop_zero]
      iterate 15 still_step
      refine wpStill_nil ?_
      go_wp2_with fail
      have H4 := Lib.hid (H3.out.set3 (d + (-o - d / 4)))
      have O4 := Lib.hid (O3.out.set 3 (.int .i64 (d + (-o - d / 4))))
      obtain ⟨W3, hW3⟩ : ∃ W3, W2.setCell ⟨p, 3, none⟩ (.int .i64 (d + (-o - d / 4))) = W3 := ⟨_, rfl⟩
      rw [hW3] at H4 O4 ⊢
      clear hW3 H3 O3 c0 c1 c2 c3 fz f3
      refine wp_region_still_tail 9 (by kernel_rfl) (by kernel_rfl) ?_
      obtain ⟨W4, hW4⟩ : ∃ W4, ({ W3 with drawn := W3.drawn + 1 } : World) = W4 := ⟨_, rfl⟩
      have H5 := Lib.hid (show R4 W4 p s m c (d + (-o - d / 4)) by rw [← hW4]; exact H4.out.drew 1)
      have O5 := Lib.hid (show Off p w W4 by rw [← hW4]; exact O4.out.drew 1)
      rw [hW4]
      clear hW4 H4 O4
      obtain ⟨c0, c1, c2, c3, fz⟩ := id H5.out
      have f2 := fz 2
      have CS : Hid (Calls Try.prog 41 #[.pointer (some ⟨p, 0, none⟩)] W4 fun e w' => e = .returned (.int .i64 (c / 8)) ∧ w' = W4) := Lib.hid ((smoothed_any p _ _ _ _ _ H5.out).mono fun e w' h => ⟨by rw [h.1, HS.out], h.2.symm⟩)
      have j1 : IntKind.i64.wrap (s - c / 8) = s - c / 8 := IntWalk.i64_in _ (by omega)
      simp only [List.take_succ_cons, List.take_zero, List.drop_succ_cons, List.drop_zero]
      iterate 6 still_step
      still_call CS.out
      iterate 2 still_step
      refine wpStill_nil ?_
      go_wp2_with fail
      go_end0
      rw [HM.out, HN.out, HO.out, HX.out]
      refine ⟨rfl, ?_, O5.out.set _ _⟩
      have e1 : d + (-o - d / 4) = d - d / 4 + -o := by omega
      have e2 : c + (s - c / 8) = c - c / 8 + s := by omega
      rw [← e1, ← e2]
      exact H5.out.set2 _
    · have hx : (o < -o) = False := eq_false hc
      have HX : Hid (max o (-o) = o) := Lib.hid (by omega)
      go_enter Try.func38, Try.ntmps38
      go_wp2_with fail
      have H2 := Lib.hid ((H.out.set0 s).set1 m)
      have O2 := Lib.hid (((Off.refl p w).set 0 (.int .i64 s)).set 1 (.int .i64 m))
      refine (smoothed_any p _ _ _ _ _ H2.out).mono ?_
      rw [HS.out]
      rintro e w1 ⟨rfl, hw⟩
      rw [hw] at H2 O2
      clear hw c0 c1 c2 c3 fz f0 f1 f2 f3 H
      go_wp2_with fail
      rw [H8.out]
      refine wp_region_still_tail 15 (by kernel_rfl) (by kernel_rfl) ?_
      obtain ⟨W2, hW2⟩ : ∃ W2, ({ w1 with drawn := w1.drawn + 1 } : World) = W2 := ⟨_, rfl⟩
      have H3 := Lib.hid (show R4 W2 p s m c d by rw [← hW2]; exact H2.out.drew 1)
      have O3 := Lib.hid (show Off p w W2 by rw [← hW2]; exact O2.out.drew 1)
      rw [hW2]
      clear hW2 H2 O2
      obtain ⟨c0, c1, c2, c3, fz⟩ := id H3.out
      have f3 := fz 3
      have hd4 := HD.out
      simp only [List.take_succ_cons, List.take_zero, List.drop_succ_cons, List.drop_zero]
      iterate 15 still_step
      refine wpStill_nil ?_
      go_wp2_with fail
      have H4 := Lib.hid (H3.out.set3 (d + (o - d / 4)))
      have O4 := Lib.hid (O3.out.set 3 (.int .i64 (d + (o - d / 4))))
      obtain ⟨W3, hW3⟩ : ∃ W3, W2.setCell ⟨p, 3, none⟩ (.int .i64 (d + (o - d / 4))) = W3 := ⟨_, rfl⟩
      rw [hW3] at H4 O4 ⊢
      clear hW3 H3 O3 c0 c1 c2 c3 fz f3
      refine wp_region_still_tail 9 (by kernel_rfl) (by kernel_rfl) ?_
      obtain ⟨W4, hW4⟩ : ∃ W4, ({ W3 with drawn := W3.drawn + 1 } : World) = W4 := ⟨_, rfl⟩
      have H5 := Lib.hid (show R4 W4 p s m c (d + (o - d / 4)) by rw [← hW4]; exact H4.out.drew 1)
      have O5 := Lib.hid (show Off p w W4 by rw [← hW4]; exact O4.out.drew 1)
      rw [hW4]
      clear hW4 H4 O4
      obtain ⟨c0, c1, c2, c3, fz⟩ := id H5.out
      have f2 := fz 2
      have CS : Hid (Calls Try.prog 41 #[.pointer (some ⟨p, 0, none⟩)] W4 fun e w' => e = .returned (.int .i64 (c / 8)) ∧ w' = W4) := Lib.hid ((smoothed_any p _ _ _ _ _ H5.out).mono fun e w' h => ⟨by rw [h.1, HS.out], h.2.symm⟩)
      have j1 : IntKind.i64.wrap (s - c / 8) = s - c / 8 := IntWalk.i64_in _ (by omega)
      simp only [List.take_succ_cons, List.take_zero, List.drop_succ_cons, List.drop_zero]
      iterate 6 still_step
      still_call CS.out
      iterate 2 still_step
      refine wpStill_nil ?_
      go_wp2_with fail
      go_end0
      rw [HM.out, HN.out, HO.out, HX.out]
      refine ⟨rfl, ?_, O5.out.set _ _⟩
      have e1 : d + (o - d / 4) = d - d / 4 + o := by omega
      have e2 : c + (s - c / 8) = c - c / 8 + s := by omega
      rw [← e1, ← e2]
      exact H5.out.set2 _
  · have HN := Lib.hid (show un b s y = s - y by rw [HU.out, if_neg hn])
    clear HU
    have hn1 : 1 ≤ (s - y) := by omega
    have hn2 : (s - y) ≤ 999 := by omega
    obtain ⟨o, ho⟩ : ∃ o, c / 8 - (s - y) = o := ⟨_, rfl⟩
    have hw2 : IntKind.i64.wrap (-o) = -o := IntWalk.i64_in _ (by omega)
    have HD : Hid (IntKind.i64.wrap (d.tdiv 4) = d / 4) := Lib.hid (by rw [Int.tdiv_eq_ediv_of_nonneg k7]; exact IntWalk.i64_in _ (by omega))
    have ho1 : -1000 ≤ o := by omega
    have ho2 : o ≤ 1000 := by omega
    have HO : Hid (max (c / 8 - (s - y)) ((s - y) - c / 8) = max o (-o)) := Lib.hid (by omega)
    have H8 := Lib.hid ho
    clear ho
    have d41 : 0 ≤ d / 4 := by omega
    have d42 : d / 4 ≤ 1000 := by omega
    by_cases hc : o < -o
    · have hx : (o < -o) = True := eq_true hc
      have HX : Hid (max o (-o) = -o) := Lib.hid (by omega)
      go_enter Try.func38, Try.ntmps38
      go_wp2_with fail
      have H2 := Lib.hid ((H.out.set0 s).set1 m)
      have O2 := Lib.hid (((Off.refl p w).set 0 (.int .i64 s)).set 1 (.int .i64 m))
      refine (smoothed_any p _ _ _ _ _ H2.out).mono ?_
      rw [HS.out]
      rintro e w1 ⟨rfl, hw⟩
      rw [hw] at H2 O2
      clear hw c0 c1 c2 c3 fz f0 f1 f2 f3 H
      go_wp2_with fail
      rw [H8.out]
      refine wp_region_still_tail 15 (by kernel_rfl) (by kernel_rfl) ?_
      obtain ⟨W2, hW2⟩ : ∃ W2, ({ w1 with drawn := w1.drawn + 1 } : World) = W2 := ⟨_, rfl⟩
      have H3 := Lib.hid (show R4 W2 p s m c d by rw [← hW2]; exact H2.out.drew 1)
      have O3 := Lib.hid (show Off p w W2 by rw [← hW2]; exact O2.out.drew 1)
      rw [hW2]
      clear hW2 H2 O2
      obtain ⟨c0, c1, c2, c3, fz⟩ := id H3.out
      have f3 := fz 3
      have hd4 := HD.out
      simp only [List.take_succ_cons, List.take_zero, List.drop_succ_cons, List.drop_zero]
      iterate 15 still_step
      refine wpStill_nil ?_
      go_wp2_with fail
      have H4 := Lib.hid (H3.out.set3 (d + (-o - d / 4)))
      have O4 := Lib.hid (O3.out.set 3 (.int .i64 (d + (-o - d / 4))))
      obtain ⟨W3, hW3⟩ : ∃ W3, W2.setCell ⟨p, 3, none⟩ (.int .i64 (d + (-o - d / 4))) = W3 := ⟨_, rfl⟩
      rw [hW3] at H4 O4 ⊢
      clear hW3 H3 O3 c0 c1 c2 c3 fz f3
      refine wp_region_still_tail 9 (by kernel_rfl) (by kernel_rfl) ?_
      obtain ⟨W4, hW4⟩ : ∃ W4, ({ W3 with drawn := W3.drawn + 1 } : World) = W4 := ⟨_, rfl⟩
      have H5 := Lib.hid (show R4 W4 p s m c (d + (-o - d / 4)) by rw [← hW4]; exact H4.out.drew 1)
      have O5 := Lib.hid (show Off p w W4 by rw [← hW4]; exact O4.out.drew 1)
      rw [hW4]
      clear hW4 H4 O4
      obtain ⟨c0, c1, c2, c3, fz⟩ := id H5.out
      have f2 := fz 2
      have CS : Hid (Calls Try.prog 41 #[.pointer (some ⟨p, 0, none⟩)] W4 fun e w' => e = .returned (.int .i64 (c / 8)) ∧ w' = W4) := Lib.hid ((smoothed_any p _ _ _ _ _ H5.out).mono fun e w' h => ⟨by rw [h.1, HS.out], h.2.symm⟩)
      have j1 : IntKind.i64.wrap ((s - y) - c / 8) = (s - y) - c / 8 := IntWalk.i64_in _ (by omega)
      simp only [List.take_succ_cons, List.take_zero, List.drop_succ_cons, List.drop_zero]
      iterate 6 still_step
      still_call CS.out
      iterate 2 still_step
      refine wpStill_nil ?_
      go_wp2_with fail
      go_end0
      rw [HM.out, HN.out, HO.out, HX.out]
      refine ⟨rfl, ?_, O5.out.set _ _⟩
      have e1 : d + (-o - d / 4) = d - d / 4 + -o := by omega
      have e2 : c + ((s - y) - c / 8) = c - c / 8 + (s - y) := by omega
      rw [← e1, ← e2]
      exact H5.out.set2 _
    · have hx : (o < -o) = False := eq_false hc
      have HX : Hid (max o (-o) = o) := Lib.hid (by omega)
      go_enter Try.func38, Try.ntmps38
      go_wp2_with fail
      have H2 := Lib.hid ((H.out.set0 s).set1 m)
      have O2 := Lib.hid (((Off.refl p w).set 0 (.int .i64 s)).set 1 (.int .i64 m))
      refine (smoothed_any p _ _ _ _ _ H2.out).mono ?_
      rw [HS.out]
      rintro e w1 ⟨rfl, hw⟩
      rw [hw] at H2 O2
      clear hw c0 c1 c2 c3 fz f0 f1 f2 f3 H
      go_wp2_with fail
      rw [H8.out]
      refine wp_region_still_tail 15 (by kernel_rfl) (by kernel_rfl) ?_
      obtain ⟨W2, hW2⟩ : ∃ W2, ({ w1 with drawn := w1.drawn + 1 } : World) = W2 := ⟨_, rfl⟩
      have H3 := Lib.hid (show R4 W2 p s m c d by rw [← hW2]; exact H2.out.drew 1)
      have O3 := Lib.hid (show Off p w W2 by rw [← hW2]; exact O2.out.drew 1)
      rw [hW2]
      clear hW2 H2 O2
      obtain ⟨c0, c1, c2, c3, fz⟩ := id H3.out
      have f3 := fz 3
      have hd4 := HD.out
      simp only [List.take_succ_cons, List.take_zero, List.drop_succ_cons, List.drop_zero]
      iterate 15 still_step
      refine wpStill_nil ?_
      go_wp2_with fail
      have H4 := Lib.hid (H3.out.set3 (d + (o - d / 4)))
      have O4 := Lib.hid (O3.out.set 3 (.int .i64 (d + (o - d / 4))))
      obtain ⟨W3, hW3⟩ : ∃ W3, W2.setCell ⟨p, 3, none⟩ (.int .i64 (d + (o - d / 4))) = W3 := ⟨_, rfl⟩
      rw [hW3] at H4 O4 ⊢
      clear hW3 H3 O3 c0 c1 c2 c3 fz f3
      refine wp_region_still_tail 9 (by kernel_rfl) (by kernel_rfl) ?_
      obtain ⟨W4, hW4⟩ : ∃ W4, ({ W3 with drawn := W3.drawn + 1 } : World) = W4 := ⟨_, rfl⟩
      have H5 := Lib.hid (show R4 W4 p s m c (d + (o - d / 4)) by rw [← hW4]; exact H4.out.drew 1)
      have O5 := Lib.hid (show Off p w W4 by rw [← hW4]; exact O4.out.drew 1)
      rw [hW4]
      clear hW4 H4 O4
      obtain ⟨c0, c1, c2, c3, fz⟩ := id H5.out
      have f2 := fz 2
      have CS : Hid (Calls Try.prog 41 #[.pointer (some ⟨p, 0, none⟩)] W4 fun e w' => e = .returned (.int .i64 (c / 8)) ∧ w' = W4) := Lib.hid ((smoothed_any p _ _ _ _ _ H5.out).mono fun e w' h => ⟨by rw [h.1, HS.out], h.2.symm⟩)
      have j1 : IntKind.i64.wrap ((s - y) - c / 8) = (s - y) - c / 8 := IntWalk.i64_in _ (by omega)
      simp only [List.take_succ_cons, List.take_zero, List.drop_succ_cons, List.drop_zero]
      iterate 6 still_step
      still_call CS.out
      iterate 2 still_step
      refine wpStill_nil ?_
      go_wp2_with fail
      go_end0
      rw [HM.out, HN.out, HO.out, HX.out]
      refine ⟨rfl, ?_, O5.out.set _ _⟩
      have e1 : d + (o - d / 4) = d - d / 4 + o := by omega
      have e2 : c + ((s - y) - c / 8) = c - c / 8 + (s - y) := by omega
      rw [← e1, ← e2]
      exact H5.out.set2 _

end Go.Proofs.Ytlhjhdlpejpooaa
