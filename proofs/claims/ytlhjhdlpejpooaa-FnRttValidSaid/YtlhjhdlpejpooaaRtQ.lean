/- RttProbe: the contracts, the program's and the model's. -/
import Derived.Test.YtlhjhdlpejpooaaRtP
namespace Go.Proofs.Ytlhjhdlpejpooaa
open Go.RowKit
set_option linter.unusedVariables false
set_option linter.unusedSimpArgs false

def pok (a b c d k : Int) : Prop := rok a b c d ∧ 0 ≤ k ∧ k ≤ 6
theorem probe_no {a b c d k : Int} (h : ¬ (rok a b c d ∧ 0 ≤ k ∧ k ≤ 6)) : probe a b c d k = 0 := by unfold probe; rw [if_neg h]
theorem probe_z {a b c d k : Int} (h : rz a b c d) (hk : 0 ≤ k ∧ k ≤ 6) : probe a b c d k = 100 * 2 ^ k.toNat := by
  unfold probe; rw [if_pos ⟨.inl h, hk⟩]; unfold pr0; rw [if_pos h.1]
theorem probe_s {a b c d k : Int} (h : rs a b c d) (hk : 0 ≤ k ∧ k ≤ 6) : probe a b c d k = (c / 8 + max d 1) * 2 ^ k.toNat := by
  unfold probe; rw [if_pos ⟨.inr h, hk⟩]; unfold pr0; rw [if_neg (by unfold rs at h; omega)]
theorem p2_bd {n : Nat} (h : n ≤ 6) : 1 ≤ (2 : Int) ^ n ∧ (2 : Int) ^ n ≤ 64 := by
  rcases (by omega : n = 0 ∨ n = 1 ∨ n = 2 ∨ n = 3 ∨ n = 4 ∨ n = 5 ∨ n = 6) with h | h | h | h | h | h | h <;> (subst h; decide)
theorem pw_bd {x : Int} {n : Nat} (h0 : 0 ≤ x) (h1 : x ≤ 10000) (h : n ≤ 6) : 0 ≤ x * 2 ^ n ∧ x * 2 ^ n ≤ 640000 := by
  obtain ⟨k1, k2⟩ := p2_bd h
  exact ⟨Int.mul_nonneg h0 (by omega), by have := Int.mul_le_mul h1 k2 (by omega) (by omega); omega⟩
theorem wr_pw {x k : Int} (h0 : 0 ≤ x) (h1 : x ≤ 10000) (h : 0 ≤ k ∧ k ≤ 6) : wrap64 (x * 2 ^ k.toNat) = x * 2 ^ k.toNat := by
  have hb := pw_bd (x := x) (n := k.toNat) h0 h1 (by omega)
  generalize x * 2 ^ k.toNat = z at hb ⊢
  unfold wrap64; omega
theorem pw_succ (x : Int) (n : Nat) : 2 * (x * 2 ^ n) = x * 2 ^ (n + 1) := by rw [Int.pow_succ, Int.mul_comm 2, Int.mul_assoc]

set_option maxRecDepth 100000 in
set_option maxHeartbeats 4000000 in
theorem ipr_any (a b c d k : Int) (w : World) (hc : -9223372036854775808 ≤ c ∧ c ≤ 9223372036854775807) : Calls Try.prog 24 #[.agg #[.int .i64 a, .int .i64 b, .int .i64 c, .int .i64 d], .int .i64 k] w fun e w' => e = .returned (.int .i64 (probe a b c d k)) ∧ Below w.heap.size w w' := by
  have HCC := Lib.hid hc
  clear hc
  have R := Lib.hid (R4.new w a b c d 24)
  have B := Lib.hid ((Below.refl w.heap.size w).alloc (Nat.le_refl _) (.cells #[.int .i64 a, .int .i64 b, .int .i64 c, .int .i64 d] 24))
  by_cases hv : rok a b c d
  case neg =>
    have HV := Lib.hid (decide_eq_false hv)
    have HL := Lib.hid (probe_no (k := k) (fun h => hv h.1))
    clear hv
    have cc := R.out
    obtain ⟨c0, c1, c2, c3, fz⟩ := cc
    go_enter Try.func24, Try.ntmps24
    go_wp2_with fail
    refine (ivalid_any a b c d _ HCC.out).mono ?_
    rw [HV.out]
    rintro e w1 ⟨rfl, hb1⟩
    have R1 := Lib.hid (R.out.below hb1 (by simp))
    have B1 := Lib.hid (B.out.trans (hb1.mono (by simp)))
    clear hb1 c0 c1 c2 c3 fz
    obtain ⟨c0, c1, c2, c3, fz⟩ := id R1.out
    go_wp2_with fail
    go_ret
    exact ⟨ret_int HL.out.symm, B1.out⟩
  have HV := Lib.hid (decide_eq_true hv)
  by_cases hk : 0 ≤ k ∧ k ≤ 6
  case neg =>
    have HK := Lib.hid (decide_eq_false hk)
    have HL := Lib.hid (probe_no (a := a) (b := b) (c := c) (d := d) (fun h => hk h.2))
    clear hv hk
    have cc := R.out
    obtain ⟨c0, c1, c2, c3, fz⟩ := cc
    go_enter Try.func24, Try.ntmps24
    go_wp2_with fail
    refine (ivalid_any a b c d _ HCC.out).mono ?_
    rw [HV.out]
    rintro e w1 ⟨rfl, hb1⟩
    have R1 := Lib.hid (R.out.below hb1 (by simp))
    have B1 := Lib.hid (B.out.trans (hb1.mono (by simp)))
    clear hb1 c0 c1 c2 c3 fz
    obtain ⟨c0, c1, c2, c3, fz⟩ := id R1.out
    go_wp2_with (first | (go_at_call 35; (with_reducible refine (upTo_any _ _ _).mono ?_); rw [HK.out]; rintro e w' ⟨rfl, rfl⟩) | (go_at_call 36; (with_reducible refine (unsampled_any _ _ _ _ _ _ R1.out).mono ?_); rw [HZ.out]; rintro e w' ⟨rfl, rfl⟩))
    go_ret
    exact ⟨ret_int HL.out.symm, B1.out⟩
  have HK := Lib.hid (decide_eq_true hk)
  rcases hv with hz | hs
  · have HZ := Lib.hid (decide_eq_true hz)
    have HL := Lib.hid (probe_z hz hk)
    clear hz
    obtain ⟨k1, k2⟩ := hk
    have cc := R.out
    obtain ⟨c0, c1, c2, c3, fz⟩ := cc
    go_enter Try.func24, Try.ntmps24
    go_wp2_with fail
    refine (ivalid_any a b c d _ HCC.out).mono ?_
    rw [HV.out]
    rintro e w1 ⟨rfl, hb1⟩
    have R1 := Lib.hid (R.out.below hb1 (by simp))
    have B1 := Lib.hid (B.out.trans (hb1.mono (by simp)))
    clear hb1 c0 c1 c2 c3 fz
    obtain ⟨c0, c1, c2, c3, fz⟩ := id R1.out
    go_wp2_with (first | (go_at_call 35; (with_reducible refine (upTo_any _ _ _).mono ?_); rw [HK.out]; rintro e w' ⟨rfl, rfl⟩) | (go_at_call 36; (with_reducible refine (unsampled_any _ _ _ _ _ _ R1.out).mono ?_); rw [HZ.out]; rintro e w' ⟨rfl, rfl⟩))
    go_ret
    rw [HL.out]
    exact ⟨ret_int (wr_pw (by omega) (by omega) ⟨k1, k2⟩), B1.out⟩
  · have HZ := Lib.hid (decide_eq_false (not_rz hs))
    have HL := Lib.hid (probe_s hs hk)
    obtain ⟨⟨k1, k2⟩, ⟨k3, k4⟩, ⟨k5, k6⟩, k7, k8⟩ := hs
    obtain ⟨j1, j2⟩ := hk
    have HS := Lib.hid (sm_pos (c := c) (by omega) (by omega))
    have hc1 : 1 ≤ c / 8 := by omega
    have hc2 : c / 8 ≤ 999 := by omega
    by_cases hx : d < 1
    · have hx' : (d < 1) = True := eq_true hx
      have HM : Hid (max d 1 = 1) := Lib.hid (by omega)
      have cc := R.out
      obtain ⟨c0, c1, c2, c3, fz⟩ := cc
      go_enter Try.func24, Try.ntmps24
      go_wp2_with fail
      refine (ivalid_any a b c d _ HCC.out).mono ?_
      rw [HV.out]
      rintro e w1 ⟨rfl, hb1⟩
      have R1 := Lib.hid (R.out.below hb1 (by simp))
      have B1 := Lib.hid (B.out.trans (hb1.mono (by simp)))
      clear hb1 c0 c1 c2 c3 fz
      obtain ⟨c0, c1, c2, c3, fz⟩ := id R1.out
      go_wp2_with (first | (go_at_call 35; (with_reducible refine (upTo_any _ _ _).mono ?_); rw [HK.out]; rintro e w' ⟨rfl, rfl⟩) | (go_at_call 36; (with_reducible refine (unsampled_any _ _ _ _ _ _ R1.out).mono ?_); rw [HZ.out]; rintro e w' ⟨rfl, rfl⟩))
      have CS : Hid (∀ W : World, R4 W w.heap.size a b c d → Calls Try.prog 41 #[.pointer (some ⟨w.heap.size, 0, none⟩)] W fun e w' => e = .returned (.int .i64 (c / 8)) ∧ w' = W) := Lib.hid fun W r => (smoothed_any _ _ _ _ _ _ r).mono fun e w' h => ⟨by rw [h.1, HS.out], h.2.symm⟩
      refine wp_region_still_lit (by kernel_rfl) (by kernel_rfl) ?_
      obtain ⟨W2, hW2⟩ : ∃ W2, ({ w1 with drawn := w1.drawn + 1 } : World) = W2 := ⟨_, rfl⟩
      have R2 := Lib.hid (show R4 W2 w.heap.size a b c d by rw [← hW2]; exact R1.out.drew 1)
      have B2 := Lib.hid (show Below w.heap.size w W2 by rw [← hW2]; exact below_drewN B1.out 1)
      rw [hW2]
      clear hW2 R1 B1 c0 c1 c2 c3 fz
      obtain ⟨c0, c1, c2, c3, fz⟩ := id R2.out
      have hw5 : IntKind.i64.wrap (c / 8 + 1) = c / 8 + 1 := IntWalk.i64_in _ (by omega)
      still_call (CS.out _ R2.out)
      repeat still_step
      refine wpStill_nil ?_
      go_wp2_with fail
      go_ret
      rw [HL.out, HM.out]
      exact ⟨ret_int (wr_pw (by omega) (by omega) ⟨j1, j2⟩), B2.out⟩
    · have hx' : (d < 1) = False := eq_false hx
      have HM : Hid (max d 1 = d) := Lib.hid (by omega)
      have cc := R.out
      obtain ⟨c0, c1, c2, c3, fz⟩ := cc
      go_enter Try.func24, Try.ntmps24
      go_wp2_with fail
      refine (ivalid_any a b c d _ HCC.out).mono ?_
      rw [HV.out]
      rintro e w1 ⟨rfl, hb1⟩
      have R1 := Lib.hid (R.out.below hb1 (by simp))
      have B1 := Lib.hid (B.out.trans (hb1.mono (by simp)))
      clear hb1 c0 c1 c2 c3 fz
      obtain ⟨c0, c1, c2, c3, fz⟩ := id R1.out
      go_wp2_with (first | (go_at_call 35; (with_reducible refine (upTo_any _ _ _).mono ?_); rw [HK.out]; rintro e w' ⟨rfl, rfl⟩) | (go_at_call 36; (with_reducible refine (unsampled_any _ _ _ _ _ _ R1.out).mono ?_); rw [HZ.out]; rintro e w' ⟨rfl, rfl⟩))
      have CS : Hid (∀ W : World, R4 W w.heap.size a b c d → Calls Try.prog 41 #[.pointer (some ⟨w.heap.size, 0, none⟩)] W fun e w' => e = .returned (.int .i64 (c / 8)) ∧ w' = W) := Lib.hid fun W r => (smoothed_any _ _ _ _ _ _ r).mono fun e w' h => ⟨by rw [h.1, HS.out], h.2.symm⟩
      refine wp_region_still_lit (by kernel_rfl) (by kernel_rfl) ?_
      obtain ⟨W2, hW2⟩ : ∃ W2, ({ w1 with drawn := w1.drawn + 1 } : World) = W2 := ⟨_, rfl⟩
      have R2 := Lib.hid (show R4 W2 w.heap.size a b c d by rw [← hW2]; exact R1.out.drew 1)
      have B2 := Lib.hid (show Below w.heap.size w W2 by rw [← hW2]; exact below_drewN B1.out 1)
      rw [hW2]
      clear hW2 R1 B1 c0 c1 c2 c3 fz
      obtain ⟨c0, c1, c2, c3, fz⟩ := id R2.out
      have hw5 : IntKind.i64.wrap (c / 8 + d) = c / 8 + d := IntWalk.i64_in _ (by omega)
      still_call (CS.out _ R2.out)
      repeat still_step
      refine wpStill_nil ?_
      go_wp2_with fail
      go_ret
      rw [HL.out, HM.out]
      exact ⟨ret_int (wr_pw (by omega) (by omega) ⟨j1, j2⟩), B2.out⟩

set_option maxRecDepth 100000 in
set_option maxHeartbeats 4000000 in
theorem spr_any (a b c d k : Int) (w : World) : Calls Try.prog 25 #[.agg #[.int .i64 a, .int .i64 b, .int .i64 c, .int .i64 d], .int .i64 k] w fun e w' => e = .returned (.int .i64 (probe a b c d k)) ∧ Below w.heap.size w w' := by
  have R := Lib.hid (R4.new w a b c d 24)
  have B := Lib.hid ((Below.refl w.heap.size w).alloc (Nat.le_refl _) (.cells #[.int .i64 a, .int .i64 b, .int .i64 c, .int .i64 d] 24))
  by_cases hv : rok a b c d
  case neg =>
    have HV := Lib.hid (decide_eq_false hv)
    have HL := Lib.hid (probe_no (k := k) (fun h => hv h.1))
    clear hv
    have cc := R.out
    obtain ⟨c0, c1, c2, c3, fz⟩ := cc
    go_enter Try.func25, Try.ntmps25
    go_wp2_with fail
    refine (svalid_any a b c d _).mono ?_
    rw [HV.out]
    rintro e w1 ⟨rfl, hb1⟩
    have R1 := Lib.hid (R.out.below hb1 (by simp))
    have B1 := Lib.hid (B.out.trans (hb1.mono (by simp)))
    clear hb1 c0 c1 c2 c3 fz
    obtain ⟨c0, c1, c2, c3, fz⟩ := id R1.out
    go_wp2_with fail
    go_ret
    exact ⟨ret_int HL.out.symm, B1.out⟩
  have HV := Lib.hid (decide_eq_true hv)
  by_cases hk : 0 ≤ k ∧ k ≤ 6
  case neg =>
    have HK := Lib.hid (decide_eq_false hk)
    have HL := Lib.hid (probe_no (a := a) (b := b) (c := c) (d := d) (fun h => hk h.2))
    clear hv hk
    have cc := R.out
    obtain ⟨c0, c1, c2, c3, fz⟩ := cc
    go_enter Try.func25, Try.ntmps25
    go_wp2_with fail
    refine (svalid_any a b c d _).mono ?_
    rw [HV.out]
    rintro e w1 ⟨rfl, hb1⟩
    have R1 := Lib.hid (R.out.below hb1 (by simp))
    have B1 := Lib.hid (B.out.trans (hb1.mono (by simp)))
    clear hb1 c0 c1 c2 c3 fz
    obtain ⟨c0, c1, c2, c3, fz⟩ := id R1.out
    go_wp2_with (first | (go_at_call 39; (with_reducible refine (l6In_any _ _ _ _).mono ?_); rw [HK.out]; rintro e w' ⟨rfl, rfl⟩))
    go_ret
    exact ⟨ret_int HL.out.symm, B1.out⟩
  have HK := Lib.hid (decide_eq_true hk)
  obtain ⟨K, rfl⟩ : ∃ K : Nat, k = K := ⟨k.toNat, by omega⟩
  have hK : K ≤ 6 := by omega
  rcases hv with hz | hs
  · have HL := Lib.hid (probe_z hz hk)
    rw [Int.toNat_natCast] at HL
    have ha : ¬ 0 < a := by unfold rz at hz; omega
    clear hz hk
    have cc := R.out
    obtain ⟨c0, c1, c2, c3, fz⟩ := cc
    go_enter Try.func25, Try.ntmps25
    go_wp2_with fail
    refine (svalid_any a b c d _).mono ?_
    rw [HV.out]
    rintro e w1 ⟨rfl, hb1⟩
    have R1 := Lib.hid (R.out.below hb1 (by simp))
    have B1 := Lib.hid (B.out.trans (hb1.mono (by simp)))
    clear hb1 c0 c1 c2 c3 fz
    obtain ⟨c0, c1, c2, c3, fz⟩ := id R1.out
    go_wp2_with (first | (go_at_call 39; (with_reducible refine (l6In_any _ _ _ _).mono ?_); rw [HK.out]; rintro e w' ⟨rfl, rfl⟩))
    go_loopw [5, 6] (fun nv iv wr => ∃ (i : Nat) (n : Int), i ≤ K ∧ nv = .int .i64 n ∧ Hid (n = 100 * 2 ^ i) ∧ 0 ≤ n ∧ n ≤ 640000 ∧ iv = .int .i64 i ∧ wr = w1) (fun _ iv _ => (K - intOf iv).toNat)
    case atStart => exact ⟨0, 100, by omega, by first | rfl | go_num, Lib.hid (by simp), by omega, by omega, rfl, rfl⟩
    case round =>
      obtain ⟨i, n, hi, rfl, HN, hn0, hn9, rfl, rfl⟩ := hrel
      by_cases hik : i = K
      · subst hik
        go_wp2_with fail
        go_ret
        rw [HL.out]
        exact ⟨ret_int HN.out, B1.out⟩
      · have hlt : (i : Int) < K := by omega
        have HS := Lib.hid (show 2 * n = 100 * 2 ^ (i + 1) by rw [HN.out]; exact pw_succ _ _)
        have hb := pw_bd (x := 100) (n := i + 1) (by omega) (by omega) (by omega)
        rw [← HS.out] at hb
        obtain ⟨hb0, hb9⟩ := hb
        go_wp2_with fail
        go_roundw
        case rel => exact ⟨i + 1, _, by omega, by first | rfl | go_num, HS, by omega, by omega, by go_num, by first | rfl | trivial⟩
        case measure => simp [intOf]; omega
  · have HL := Lib.hid (probe_s hs hk)
    rw [Int.toNat_natCast] at HL
    obtain ⟨⟨k1, k2⟩, ⟨k3, k4⟩, ⟨k5, k6⟩, k7, k8⟩ := hs
    have hc1 : 1 ≤ c / 8 := by omega
    have hc2 : c / 8 ≤ 999 := by omega
    clear hk
    by_cases hx : d < 1
    · have hx' : (d < 1) = True := eq_true hx
      have HM : Hid (max d 1 = 1) := Lib.hid (by omega)
      rw [HM.out] at HL
      have hx1 : 0 ≤ c / 8 + 1 := by omega
      have hx2 : c / 8 + 1 ≤ 10000 := by omega
      have cc := R.out
      obtain ⟨c0, c1, c2, c3, fz⟩ := cc
      go_enter Try.func25, Try.ntmps25
      go_wp2_with fail
      refine (svalid_any a b c d _).mono ?_
      rw [HV.out]
      rintro e w1 ⟨rfl, hb1⟩
      have R1 := Lib.hid (R.out.below hb1 (by simp))
      have B1 := Lib.hid (B.out.trans (hb1.mono (by simp)))
      clear hb1 c0 c1 c2 c3 fz
      obtain ⟨c0, c1, c2, c3, fz⟩ := id R1.out
      go_wp2_with (first | (go_at_call 39; (with_reducible refine (l6In_any _ _ _ _).mono ?_); rw [HK.out]; rintro e w' ⟨rfl, rfl⟩))
      go_loopw [5, 6] (fun nv iv wr => ∃ (i : Nat) (n : Int), i ≤ K ∧ nv = .int .i64 n ∧ Hid (n = (c / 8 + 1) * 2 ^ i) ∧ 0 ≤ n ∧ n ≤ 640000 ∧ iv = .int .i64 i ∧ wr = w1) (fun _ iv _ => (K - intOf iv).toNat)
      case atStart => exact ⟨0, (c / 8 + 1), by omega, by first | rfl | go_num, Lib.hid (by simp), by omega, by omega, rfl, rfl⟩
      case round =>
        obtain ⟨i, n, hi, rfl, HN, hn0, hn9, rfl, rfl⟩ := hrel
        by_cases hik : i = K
        · subst hik
          go_wp2_with fail
          go_ret
          rw [HL.out]
          exact ⟨ret_int HN.out, B1.out⟩
        · have hlt : (i : Int) < K := by omega
          have HS := Lib.hid (show 2 * n = (c / 8 + 1) * 2 ^ (i + 1) by rw [HN.out]; exact pw_succ _ _)
          have hb := pw_bd (x := (c / 8 + 1)) (n := i + 1) (by omega) (by omega) (by omega)
          rw [← HS.out] at hb
          obtain ⟨hb0, hb9⟩ := hb
          go_wp2_with fail
          go_roundw
          case rel => exact ⟨i + 1, _, by omega, by first | rfl | go_num, HS, by omega, by omega, by go_num, by first | rfl | trivial⟩
          case measure => simp [intOf]; omega
    · have hx' : (d < 1) = False := eq_false hx
      have HM : Hid (max d 1 = d) := Lib.hid (by omega)
      rw [HM.out] at HL
      have hx1 : 0 ≤ c / 8 + d := by omega
      have hx2 : c / 8 + d ≤ 10000 := by omega
      have cc := R.out
      obtain ⟨c0, c1, c2, c3, fz⟩ := cc
      go_enter Try.func25, Try.ntmps25
      go_wp2_with fail
      refine (svalid_any a b c d _).mono ?_
      rw [HV.out]
      rintro e w1 ⟨rfl, hb1⟩
      have R1 := Lib.hid (R.out.below hb1 (by simp))
      have B1 := Lib.hid (B.out.trans (hb1.mono (by simp)))
      clear hb1 c0 c1 c2 c3 fz
      obtain ⟨c0, c1, c2, c3, fz⟩ := id R1.out
      go_wp2_with (first | (go_at_call 39; (with_reducible refine (l6In_any _ _ _ _).mono ?_); rw [HK.out]; rintro e w' ⟨rfl, rfl⟩))
      go_loopw [5, 6] (fun nv iv wr => ∃ (i : Nat) (n : Int), i ≤ K ∧ nv = .int .i64 n ∧ Hid (n = (c / 8 + d) * 2 ^ i) ∧ 0 ≤ n ∧ n ≤ 640000 ∧ iv = .int .i64 i ∧ wr = w1) (fun _ iv _ => (K - intOf iv).toNat)
      case atStart => exact ⟨0, (c / 8 + d), by omega, by first | rfl | go_num, Lib.hid (by simp), by omega, by omega, rfl, rfl⟩
      case round =>
        obtain ⟨i, n, hi, rfl, HN, hn0, hn9, rfl, rfl⟩ := hrel
        by_cases hik : i = K
        · subst hik
          go_wp2_with fail
          go_ret
          rw [HL.out]
          exact ⟨ret_int HN.out, B1.out⟩
        · have hlt : (i : Int) < K := by omega
          have HS := Lib.hid (show 2 * n = (c / 8 + d) * 2 ^ (i + 1) by rw [HN.out]; exact pw_succ _ _)
          have hb := pw_bd (x := (c / 8 + d)) (n := i + 1) (by omega) (by omega) (by omega)
          rw [← HS.out] at hb
          obtain ⟨hb0, hb9⟩ := hb
          go_wp2_with fail
          go_roundw
          case rel => exact ⟨i + 1, _, by omega, by first | rfl | go_num, HS, by omega, by omega, by go_num, by first | rfl | trivial⟩
          case measure => simp [intOf]; omega

end Go.Proofs.Ytlhjhdlpejpooaa
