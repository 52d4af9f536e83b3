/- RttLossDelay, RttProbe: the contracts, the program's and the model's. -/
import Derived.Test.YtlhjhdlpejpooaaRtW
import Derived.StillTactics
namespace Go.Proofs.Ytlhjhdlpejpooaa
open Go.RowKit
set_option linter.unusedVariables false
set_option linter.unusedSimpArgs false

theorem lossd_no {a b c d : Int} (h : ¬ rok a b c d) : lossd a b c d = 0 := by unfold lossd; rw [if_neg h]
theorem lossd_z {a b c d : Int} (h : rz a b c d) : lossd a b c d = 112 := by
  obtain ⟨rfl, rfl, rfl, rfl⟩ := h; rfl
theorem lossd_s {a b c d : Int} (h : rs a b c d) : lossd a b c d = max (c / 8) a + max (c / 8) a / 8 := by
  unfold lossd ld0
  have ha : ¬ a = 0 := by unfold rs at h; omega
  rw [if_pos (.inr h), if_neg ha]
theorem not_rz {a b c d : Int} (h : rs a b c d) : ¬ rz a b c d := by unfold rs at h; unfold rz; omega
theorem rs_c {a b c d : Int} (h : rok a b c d) : 0 ≤ c ∧ c ≤ 7999 := by unfold rok rz rs at h; omega

set_option maxRecDepth 100000 in
set_option maxHeartbeats 2000000 in
theorem ild_any (a b c d : Int) (w : World) (hc : -9223372036854775808 ≤ c ∧ c ≤ 9223372036854775807) : Calls Try.prog 20 #[.agg #[.int .i64 a, .int .i64 b, .int .i64 c, .int .i64 d]] w fun e w' => e = .returned (.int .i64 (lossd a b c d)) ∧ Below w.heap.size w w' := by
  have HCC := Lib.hid hc
  clear hc
  have R := Lib.hid (R4.new w a b c d 24)
  have B := Lib.hid ((Below.refl w.heap.size w).alloc (Nat.le_refl _) (.cells #[.int .i64 a, .int .i64 b, .int .i64 c, .int .i64 d] 24))
  by_cases hv : rok a b c d
  case neg =>
    have HV := Lib.hid (decide_eq_false hv)
    have HL := Lib.hid (lossd_no hv)
    clear hv
    have cc := R.out
    obtain ⟨c0, c1, c2, c3, fz⟩ := cc
    go_enter Try.func20, Try.ntmps20
    go_wp2_with fail
    refine (ivalid_any a b c d _ HCC.out).mono ?_
    rw [HV.out]
    rintro e w1 ⟨rfl, hb1⟩
    have R1 := Lib.hid (R.out.below hb1 (by simp))
    have B1 := Lib.hid (B.out.trans (hb1.mono (by simp)))
    clear hb1 c0 c1 c2 c3 fz
    obtain ⟨c0, c1, c2, c3, fz⟩ := id R1.out
    go_wp2_with fail
    go_ret
    exact ⟨ret_int HL.out.symm, B1.out⟩
  have HV := Lib.hid (decide_eq_true hv)
  rcases hv with hz | hs
  · have HZ := Lib.hid (decide_eq_true hz)
    have HL := Lib.hid (lossd_z hz)
    have HA := Lib.hid hz.1
    clear hz
    have cc := R.out
    obtain ⟨c0, c1, c2, c3, fz⟩ := cc
    go_enter Try.func20, Try.ntmps20
    go_wp2_with fail
    refine (ivalid_any a b c d _ HCC.out).mono ?_
    rw [HV.out]
    rintro e w1 ⟨rfl, hb1⟩
    have R1 := Lib.hid (R.out.below hb1 (by simp))
    have B1 := Lib.hid (B.out.trans (hb1.mono (by simp)))
    clear hb1 c0 c1 c2 c3 fz
    obtain ⟨c0, c1, c2, c3, fz⟩ := id R1.out
    go_wp2_with (go_at_call 36; (with_reducible refine (unsampled_any _ _ _ _ _ _ R1.out).mono ?_); rw [HZ.out]; rintro e w' ⟨rfl, rfl⟩)
    go_ret
    exact ⟨ret_int HL.out.symm, B1.out⟩
  · have HZ := Lib.hid (decide_eq_false (not_rz hs))
    have HL := Lib.hid (lossd_s hs)
    obtain ⟨⟨k1, k2⟩, ⟨k3, k4⟩, ⟨k5, k6⟩, k7, k8⟩ := hs
    have HS := Lib.hid (sm_pos (c := c) (by omega) (by omega))
    have hc1 : 1 ≤ c / 8 := by omega
    have hc2 : c / 8 ≤ 999 := by omega
    have ha' : (a == 0) = false := by rw [beq_eq_false_iff_ne]; omega
    by_cases hx : c / 8 < a
    · have hx' : (c / 8 < a) = True := eq_true hx
      have HM : Hid (max (c / 8) a = a) := Lib.hid (by omega)
      have cc := R.out
      obtain ⟨c0, c1, c2, c3, fz⟩ := cc
      go_enter Try.func20, Try.ntmps20
      go_wp2_with fail
      refine (ivalid_any a b c d _ HCC.out).mono ?_
      rw [HV.out]
      rintro e w1 ⟨rfl, hb1⟩
      have R1 := Lib.hid (R.out.below hb1 (by simp))
      have B1 := Lib.hid (B.out.trans (hb1.mono (by simp)))
      clear hb1 c0 c1 c2 c3 fz
      obtain ⟨c0, c1, c2, c3, fz⟩ := id R1.out
      go_wp2_with (go_at_call 36; (with_reducible refine (unsampled_any _ _ _ _ _ _ R1.out).mono ?_); rw [HZ.out]; rintro e w' ⟨rfl, rfl⟩)
      have CS : Hid (∀ W : World, R4 W w.heap.size a b c d → Calls Try.prog 41 #[.pointer (some ⟨w.heap.size, 0, none⟩)] W fun e w' => e = .returned (.int .i64 (c / 8)) ∧ w' = W) := Lib.hid fun W r => (smoothed_any _ _ _ _ _ _ r).mono fun e w' h => ⟨by rw [h.1, HS.out], h.2.symm⟩
      refine wp_region_still_lit (by kernel_rfl) (by kernel_rfl) ?_
      obtain ⟨W2, hW2⟩ : ∃ W2, ({ w1 with drawn := w1.drawn + 1 } : World) = W2 := ⟨_, rfl⟩
      have R2 := Lib.hid (show R4 W2 w.heap.size a b c d by rw [← hW2]; exact R1.out.drew 1)
      have B2 := Lib.hid (show Below w.heap.size w W2 by rw [← hW2]; exact below_drewN B1.out 1)
      rw [hW2]
      clear hW2 R1 B1 c0 c1 c2 c3 fz
      obtain ⟨c0, c1, c2, c3, fz⟩ := id R2.out
      still_call (CS.out _ R2.out)
      repeat still_step
      refine wpStill_nil ?_
      go_wp2_with fail
      go_ret
      rw [HL.out, HM.out]
      exact ⟨rfl, B2.out⟩
    · have hx' : (c / 8 < a) = False := eq_false hx
      have HM : Hid (max (c / 8) a = c / 8) := Lib.hid (by omega)
      have cc := R.out
      obtain ⟨c0, c1, c2, c3, fz⟩ := cc
      go_enter Try.func20, Try.ntmps20
      go_wp2_with fail
      refine (ivalid_any a b c d _ HCC.out).mono ?_
      rw [HV.out]
      rintro e w1 ⟨rfl, hb1⟩
      have R1 := Lib.hid (R.out.below hb1 (by simp))
      have B1 := Lib.hid (B.out.trans (hb1.mono (by simp)))
      clear hb1 c0 c1 c2 c3 fz
      obtain ⟨c0, c1, c2, c3, fz⟩ := id R1.out
      go_wp2_with (go_at_call 36; (with_reducible refine (unsampled_any _ _ _ _ _ _ R1.out).mono ?_); rw [HZ.out]; rintro e w' ⟨rfl, rfl⟩)
      have CS : Hid (∀ W : World, R4 W w.heap.size a b c d → Calls Try.prog 41 #[.pointer (some ⟨w.heap.size, 0, none⟩)] W fun e w' => e = .returned (.int .i64 (c / 8)) ∧ w' = W) := Lib.hid fun W r => (smoothed_any _ _ _ _ _ _ r).mono fun e w' h => ⟨by rw [h.1, HS.out], h.2.symm⟩
      refine wp_region_still_lit (by kernel_rfl) (by kernel_rfl) ?_
      obtain ⟨W2, hW2⟩ : ∃ W2, ({ w1 with drawn := w1.drawn + 1 } : World) = W2 := ⟨_, rfl⟩
      have R2 := Lib.hid (show R4 W2 w.heap.size a b c d by rw [← hW2]; exact R1.out.drew 1)
      have B2 := Lib.hid (show Below w.heap.size w W2 by rw [← hW2]; exact below_drewN B1.out 1)
      rw [hW2]
      clear hW2 R1 B1 c0 c1 c2 c3 fz
      obtain ⟨c0, c1, c2, c3, fz⟩ := id R2.out
      still_call (CS.out _ R2.out)
      repeat still_step
      refine wpStill_nil ?_
      go_wp2_with fail
      go_ret
      rw [HL.out, HM.out]
      exact ⟨rfl, B2.out⟩

set_option maxRecDepth 100000 in
set_option maxHeartbeats 2000000 in
theorem sld_any (a b c d : Int) (w : World) : Calls Try.prog 21 #[.agg #[.int .i64 a, .int .i64 b, .int .i64 c, .int .i64 d]] w fun e w' => e = .returned (.int .i64 (lossd a b c d)) ∧ Below w.heap.size w w' := by
  have R := Lib.hid (R4.new w a b c d 24)
  have B := Lib.hid ((Below.refl w.heap.size w).alloc (Nat.le_refl _) (.cells #[.int .i64 a, .int .i64 b, .int .i64 c, .int .i64 d] 24))
  by_cases hv : rok a b c d
  case neg =>
    have HV := Lib.hid (decide_eq_false hv)
    have HL := Lib.hid (lossd_no hv)
    clear hv
    have cc := R.out
    obtain ⟨c0, c1, c2, c3, fz⟩ := cc
    go_enter Try.func21, Try.ntmps21
    go_wp2_with fail
    refine (svalid_any a b c d _).mono ?_
    rw [HV.out]
    rintro e w1 ⟨rfl, hb1⟩
    have R1 := Lib.hid (R.out.below hb1 (by simp))
    have B1 := Lib.hid (B.out.trans (hb1.mono (by simp)))
    clear hb1 c0 c1 c2 c3 fz
    obtain ⟨c0, c1, c2, c3, fz⟩ := id R1.out
    go_wp2_with fail
    go_ret
    exact ⟨ret_int HL.out.symm, B1.out⟩
  have HV := Lib.hid (decide_eq_true hv)
  rcases hv with hz | hs
  · have HZ := Lib.hid (decide_eq_true hz)
    have HL := Lib.hid (lossd_z hz)
    have HA := Lib.hid hz.1
    clear hz
    have cc := R.out
    obtain ⟨c0, c1, c2, c3, fz⟩ := cc
    go_enter Try.func21, Try.ntmps21
    go_wp2_with fail
    refine (svalid_any a b c d _).mono ?_
    rw [HV.out]
    rintro e w1 ⟨rfl, hb1⟩
    have R1 := Lib.hid (R.out.below hb1 (by simp))
    have B1 := Lib.hid (B.out.trans (hb1.mono (by simp)))
    clear hb1 c0 c1 c2 c3 fz
    obtain ⟨c0, c1, c2, c3, fz⟩ := id R1.out
    have ha : (a == 0) = true := by rw [beq_iff_eq]; exact HA.out
    go_wp2_with fail
    go_ret
    exact ⟨ret_int HL.out.symm, B1.out⟩
  · have HZ := Lib.hid (decide_eq_false (not_rz hs))
    have HL := Lib.hid (lossd_s hs)
    obtain ⟨⟨k1, k2⟩, ⟨k3, k4⟩, ⟨k5, k6⟩, k7, k8⟩ := hs
    have HS := Lib.hid (sm_pos (c := c) (by omega) (by omega))
    have hc1 : 1 ≤ c / 8 := by omega
    have hc2 : c / 8 ≤ 999 := by omega
    have ha' : (a == 0) = false := by rw [beq_eq_false_iff_ne]; omega
    by_cases hx : c / 8 < a
    · have hx' : (c / 8 < a) = True := eq_true hx
      have HM : Hid (max (c / 8) a = a) := Lib.hid (by omega)
      have cc := R.out
      obtain ⟨c0, c1, c2, c3, fz⟩ := cc
      go_enter Try.func21, Try.ntmps21
      go_wp2_with fail
      refine (svalid_any a b c d _).mono ?_
      rw [HV.out]
      rintro e w1 ⟨rfl, hb1⟩
      have R1 := Lib.hid (R.out.below hb1 (by simp))
      have B1 := Lib.hid (B.out.trans (hb1.mono (by simp)))
      clear hb1 c0 c1 c2 c3 fz
      obtain ⟨c0, c1, c2, c3, fz⟩ := id R1.out
      go_wp2_with fail
      go_ret
      rw [HL.out, HM.out]
      exact ⟨rfl, B1.out⟩
    · have hx' : (c / 8 < a) = False := eq_false hx
      have HM : Hid (max (c / 8) a = c / 8) := Lib.hid (by omega)
      have cc := R.out
      obtain ⟨c0, c1, c2, c3, fz⟩ := cc
      go_enter Try.func21, Try.ntmps21
      go_wp2_with fail
      refine (svalid_any a b c d _).mono ?_
      rw [HV.out]
      rintro e w1 ⟨rfl, hb1⟩
      have R1 := Lib.hid (R.out.below hb1 (by simp))
      have B1 := Lib.hid (B.out.trans (hb1.mono (by simp)))
      clear hb1 c0 c1 c2 c3 fz
      obtain ⟨c0, c1, c2, c3, fz⟩ := id R1.out
      go_wp2_with fail
      go_ret
      rw [HL.out, HM.out]
      exact ⟨rfl, B1.out⟩

end Go.Proofs.Ytlhjhdlpejpooaa
