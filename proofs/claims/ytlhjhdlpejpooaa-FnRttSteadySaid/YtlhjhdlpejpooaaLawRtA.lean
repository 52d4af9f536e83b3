/- The laws of the loss delay and of the probe timeout: the walks. -/
import Derived.Test.YtlhjhdlpejpooaaDrRu
import Derived.Test.YtlhjhdlpejpooaaRtQ
namespace Go.Proofs.Ytlhjhdlpejpooaa
open Go.RowKit
set_option linter.unusedVariables false
set_option linter.unusedSimpArgs false

theorem rbd_c {x y z t : Int} (h : rbd x y z t) : -9223372036854775808 ≤ z ∧ z ≤ 9223372036854775807 := by unfold rbd at h; omega
theorem rok_three (x y z t : Int) : (¬ rok x y z t) ∨ rz x y z t ∨ rs x y z t := by
  by_cases h : rok x y z t
  · exact .inr h
  · exact .inl h
theorem probe_two {a b c d k : Int} (h : rok a b c d) (hk : 0 ≤ k ∧ k ≤ 5) : probe a b c d (k + 1) = 2 * probe a b c d k := by
  have e : (k + 1).toNat = k.toNat + 1 := by omega
  unfold probe
  rw [if_pos ⟨h, by omega, by omega⟩, if_pos ⟨h, by omega, by omega⟩, e, pw_succ]
theorem pr0_bd {a b c d : Int} (h : rok a b c d) : 1 ≤ pr0 a c d ∧ pr0 a c d ≤ 5000 ∧ c / 8 < pr0 a c d := by
  unfold pr0
  rcases h with ⟨h1, h2, h3, h4⟩ | h
  · rw [if_pos h1, h3]; decide
  · rw [if_neg (by unfold rs at h; omega)]; unfold rs at h; omega
theorem probe_bd {a b c d k : Int} (h : rok a b c d) (hk : 0 ≤ k ∧ k ≤ 6) : 1 ≤ probe a b c d k ∧ probe a b c d k ≤ 640000 := by
  have hp := pr0_bd h
  have h2 := p2_bd (n := k.toNat) (by omega)
  have hb := pw_bd (x := pr0 a c d) (n := k.toNat) (by omega) (by omega) (by omega)
  unfold probe
  rw [if_pos ⟨h, hk⟩]
  exact ⟨by have := Int.mul_le_mul hp.1 h2.1 (by omega) (by omega); omega, hb.2⟩
theorem probe_le {a b c d d' k : Int} (h : rok a b c d) (h' : rok a b c d') (hd : d ≤ d') : probe a b c d k ≤ probe a b c d' k := by
  unfold probe
  by_cases hk : 0 ≤ k ∧ k ≤ 6
  · rw [if_pos ⟨h, hk⟩, if_pos ⟨h', hk⟩]
    have h2 := p2_bd (n := k.toNat) (by omega)
    exact Int.mul_le_mul_of_nonneg_right (by unfold pr0; split <;> omega) (by omega)
  · rw [if_neg (fun k => hk k.2), if_neg (fun k => hk k.2)]; exact Int.le_refl _

set_option maxRecDepth 100000 in
set_option maxHeartbeats 4000000 in
theorem rtld_walk (a : Option Addr) (len cap : Nat) (zs : List Int) (w : World) (h : IsRow .u8 w a len cap zs) :
    Calls Try.prog 11 #[.slice a len cap] w fun e w' => e = .returned (.bool true) ∧ Below w.heap.size w w' := by
  have H := Lib.hid h
  clear h
  by_cases hl : 1048576 < len
  · go_enter Try.func11, Try.ntmps11
    go_wp2
    go_ret
    exact ⟨rfl, Below.refl _ _⟩
  go_enter Try.func11, Try.ntmps11
  go_wp2_with fail
  refine (drawLd_any a len cap zs w H.out).mono ?_
  rintro e w1 ⟨x, y, z, t, hbd, rfl, hb1⟩
  have HC := Lib.hid (rbd_c hbd)
  have P1 := Lib.hid (R4.new w1 x y z t 24)
  have B1 := Lib.hid (hb1.alloc hb1.size (.cells #[.int .i64 x, .int .i64 y, .int .i64 z, .int .i64 t] 24))
  clear hb1 H
  rcases rok_three x y z t with hn | hz | hs
  · have HL := Lib.hid (lossd_no hn)
    clear hn
    obtain ⟨c0, c1, c2, c3, fz⟩ := id P1.out
    go_wp2_with fail
    refine (ild_any x y z t _ HC.out).mono ?_
    rw [HL.out]
    rintro e w2 ⟨rfl, hb2⟩
    have P2 := Lib.hid (P1.out.below hb2 P1.out.lt)
    have B2 := Lib.hid (B1.out.trans (hb2.mono B1.out.size))
    obtain ⟨c0, c1, c2, c3, fz⟩ := id P2.out
    clear hb2
    go_wp2_with fail
    refine (sld_any x y z t _).mono ?_
    rw [HL.out]
    rintro e w3 ⟨rfl, hb3⟩
    have P3 := Lib.hid (P2.out.below hb3 P2.out.lt)
    have B3 := Lib.hid (B2.out.trans (hb3.mono B2.out.size))
    obtain ⟨c0, c1, c2, c3, fz⟩ := id P3.out
    clear hb3
    go_wp2_with fail
    go_ret
    exact ⟨by simp, B3.out⟩
  · have HL := Lib.hid (lossd_z hz)
    obtain ⟨rfl, rfl, rfl, rfl⟩ := hz
    obtain ⟨c0, c1, c2, c3, fz⟩ := id P1.out
    go_wp2_with fail
    refine (ild_any 0 0 0 0 _ HC.out).mono ?_
    rw [HL.out]
    rintro e w2 ⟨rfl, hb2⟩
    have P2 := Lib.hid (P1.out.below hb2 P1.out.lt)
    have B2 := Lib.hid (B1.out.trans (hb2.mono B1.out.size))
    obtain ⟨c0, c1, c2, c3, fz⟩ := id P2.out
    clear hb2
    go_wp2_with fail
    refine (sld_any 0 0 0 0 _).mono ?_
    rw [HL.out]
    rintro e w3 ⟨rfl, hb3⟩
    have P3 := Lib.hid (P2.out.below hb3 P2.out.lt)
    have B3 := Lib.hid (B2.out.trans (hb3.mono B2.out.size))
    obtain ⟨c0, c1, c2, c3, fz⟩ := id P3.out
    clear hb3
    go_wp2_with fail
    go_ret
    exact ⟨by simp, B3.out⟩
  · have HL := Lib.hid (lossd_s hs)
    obtain ⟨⟨k1, k2⟩, ⟨k3, k4⟩, ⟨k5, k6⟩, k7, k8⟩ := hs
    obtain ⟨n, hn⟩ : ∃ n, max (z / 8) x = n := ⟨_, rfl⟩
    have hm : (if x < z / 8 then z / 8 else x) = n := by rw [← hn]; split <;> omega
    have hn1 : 1 ≤ n := by omega
    have hn2 : n ≤ 999 := by omega
    rw [hn] at HL
    obtain ⟨q, hq⟩ : ∃ q, n + n / 8 = q := ⟨_, rfl⟩
    have hq1 : n ≤ q := by omega
    have hq2 : 8 * q ≤ 9 * n := by omega
    have hq0 : (q == 0) = false := by rw [beq_eq_false_iff_ne]; omega
    have hx0 : (x == 0) = false := by rw [beq_eq_false_iff_ne]; omega
    have hd1 := decide_eq_true hq1
    have hd2 := decide_eq_true hq2
    have hq9 : q ≤ 2000 := by omega
    rw [hq] at HL
    clear hn hq
    obtain ⟨c0, c1, c2, c3, fz⟩ := id P1.out
    go_wp2_with fail
    refine (ild_any x y z t _ HC.out).mono ?_
    rw [HL.out]
    rintro e w2 ⟨rfl, hb2⟩
    have P2 := Lib.hid (P1.out.below hb2 P1.out.lt)
    have B2 := Lib.hid (B1.out.trans (hb2.mono B1.out.size))
    obtain ⟨c0, c1, c2, c3, fz⟩ := id P2.out
    clear hb2
    go_wp2_with fail
    refine (sld_any x y z t _).mono ?_
    rw [HL.out]
    rintro e w3 ⟨rfl, hb3⟩
    have P3 := Lib.hid (P2.out.below hb3 P2.out.lt)
    have B3 := Lib.hid (B2.out.trans (hb3.mono B2.out.size))
    obtain ⟨c0, c1, c2, c3, fz⟩ := id P3.out
    clear hb3
    go_wp2_with fail
    go_ret
    exact ⟨by simp [hq1, hq2], B3.out⟩

set_option maxRecDepth 100000 in
set_option maxHeartbeats 4000000 in
theorem rtlv_walk (a : Option Addr) (len cap : Nat) (zs : List Int) (a1 : Option Addr) (len1 cap1 : Nat) (zs1 : List Int) (w : World) (h : IsRow .u8 w a len cap zs) (h1 : IsRow .u8 w a1 len1 cap1 zs1) :
    Calls Try.prog 12 #[.slice a len cap, .slice a1 len1 cap1] w fun e w' => e = .returned (.bool true) ∧ Below w.heap.size w w' := by
  have H := Lib.hid h
  clear h
  by_cases hl : 1048576 < len
  · go_enter Try.func12, Try.ntmps12
    go_wp2
    go_ret
    exact ⟨rfl, Below.refl _ _⟩
  clear h1
  by_cases hl1 : 1048576 < len1
  · go_enter Try.func12, Try.ntmps12
    go_wp2
    go_ret
    exact ⟨rfl, Below.refl _ _⟩
  go_enter Try.func12, Try.ntmps12
  go_wp2_with fail
  refine (drawLd_any a len cap zs w H.out).mono ?_
  rintro e w1 ⟨x, y, z, t, hbd, rfl, hb1⟩
  have HC := Lib.hid (rbd_c hbd)
  have P1 := Lib.hid (R4.new w1 x y z t 24)
  have B1 := Lib.hid (hb1.alloc hb1.size (.cells #[.int .i64 x, .int .i64 y, .int .i64 z, .int .i64 t] 24))
  clear hb1 H
  rcases rok_three x y z t with hn | hz | hs
  · have HL := Lib.hid (lossd_no hn)
    clear hn
    obtain ⟨c0, c1, c2, c3, fz⟩ := id P1.out
    go_wp2_with fail
    refine (ild_any x y z t _ HC.out).mono ?_
    rw [HL.out]
    rintro e w2 ⟨rfl, hb2⟩
    have P2 := Lib.hid (P1.out.below hb2 P1.out.lt)
    have B2 := Lib.hid (B1.out.trans (hb2.mono B1.out.size))
    obtain ⟨c0, c1, c2, c3, fz⟩ := id P2.out
    clear hb2
    go_wp2_with fail
    refine (sld_any x y z t _).mono ?_
    rw [HL.out]
    rintro e w3 ⟨rfl, hb3⟩
    have P3 := Lib.hid (P2.out.below hb3 P2.out.lt)
    have B3 := Lib.hid (B2.out.trans (hb3.mono B2.out.size))
    obtain ⟨c0, c1, c2, c3, fz⟩ := id P3.out
    clear hb3
    go_wp2_with fail
    go_ret
    exact ⟨by simp, B3.out⟩
  · have HL := Lib.hid (lossd_z hz)
    obtain ⟨rfl, rfl, rfl, rfl⟩ := hz
    obtain ⟨c0, c1, c2, c3, fz⟩ := id P1.out
    go_wp2_with fail
    refine (ild_any 0 0 0 0 _ HC.out).mono ?_
    rw [HL.out]
    rintro e w2 ⟨rfl, hb2⟩
    have P2 := Lib.hid (P1.out.below hb2 P1.out.lt)
    have B2 := Lib.hid (B1.out.trans (hb2.mono B1.out.size))
    obtain ⟨c0, c1, c2, c3, fz⟩ := id P2.out
    clear hb2
    go_wp2_with fail
    refine (sld_any 0 0 0 0 _).mono ?_
    rw [HL.out]
    rintro e w3 ⟨rfl, hb3⟩
    have P3 := Lib.hid (P2.out.below hb3 P2.out.lt)
    have B3 := Lib.hid (B2.out.trans (hb3.mono B2.out.size))
    obtain ⟨c0, c1, c2, c3, fz⟩ := id P3.out
    clear hb3
    go_wp2_with fail
    go_ret
    exact ⟨by simp, B3.out⟩
  · have HL := Lib.hid (lossd_s hs)
    obtain ⟨⟨k1, k2⟩, ⟨k3, k4⟩, ⟨k5, k6⟩, k7, k8⟩ := hs
    obtain ⟨m, hm⟩ : ∃ m : Int, (len1 : Int) % 4000 = m := ⟨_, rfl⟩
    have hm1 : 0 ≤ m ∧ m ≤ 3999 := by omega
    have ht1 : (len1 : Int).tmod 4000 = m := by rw [← hm]; exact Int.tmod_eq_emod_of_nonneg (by omega)
    have HL2 := Lib.hid (lossd_s (a := x) (b := 1) (c := z) (d := m) (by unfold rs; omega))
    obtain ⟨q, hq⟩ : ∃ q, max (z / 8) x + max (z / 8) x / 8 = q := ⟨_, rfl⟩
    have hq0 : (q == 0) = false := by rw [beq_eq_false_iff_ne]; omega
    have hx0 : (x == 0) = false := by rw [beq_eq_false_iff_ne]; omega
    rw [hq] at HL HL2
    clear hq
    obtain ⟨c0, c1, c2, c3, fz⟩ := id P1.out
    go_wp2_with fail
    refine (ild_any x y z t _ HC.out).mono ?_
    rw [HL.out]
    rintro e w2 ⟨rfl, hb2⟩
    have P2 := Lib.hid (P1.out.below hb2 P1.out.lt)
    have B2 := Lib.hid (B1.out.trans (hb2.mono B1.out.size))
    obtain ⟨c0, c1, c2, c3, fz⟩ := id P2.out
    clear hb2
    go_wp2_with fail
    refine (sld_any x y z t _).mono ?_
    rw [HL.out]
    rintro e w3 ⟨rfl, hb3⟩
    have P3 := Lib.hid (P2.out.below hb3 P2.out.lt)
    have B3 := Lib.hid (B2.out.trans (hb3.mono B2.out.size))
    obtain ⟨c0, c1, c2, c3, fz⟩ := id P3.out
    clear hb3
    go_wp2_with fail
    refine (ild_any x 1 z m _ HC.out).mono ?_
    rw [HL2.out]
    rintro e w4 ⟨rfl, hb4⟩
    have B4 := Lib.hid ((B3.out.alloc B3.out.size (.cells #[.int .i64 x, .int .i64 1, .int .i64 z, .int .i64 m] 24)).trans (hb4.mono (B3.out.alloc B3.out.size (.cells #[.int .i64 x, .int .i64 1, .int .i64 z, .int .i64 m] 24)).size))
    clear hb4
    go_wp2_with fail
    go_ret
    exact ⟨by simp, B4.out⟩

set_option maxRecDepth 100000 in
set_option maxHeartbeats 4000000 in
theorem rtst_walk (a : Option Addr) (len cap : Nat) (zs : List Int) (w : World) (h : IsRow .u8 w a len cap zs) :
    Calls Try.prog 8 #[.slice a len cap] w fun e w' => e = .returned (.bool true) ∧ Below w.heap.size w w' := by
  have H := Lib.hid h
  clear h
  by_cases hl : 1048576 < len
  · go_enter Try.func8, Try.ntmps8
    go_wp2
    go_ret
    exact ⟨rfl, Below.refl _ _⟩
  go_enter Try.func8, Try.ntmps8
  go_wp2_with fail
  refine (drawLd_any a len cap zs w H.out).mono ?_
  rintro e w1 ⟨x, y, z, t, hbd, rfl, hb1⟩
  have HC := Lib.hid (rbd_c hbd)
  have P1 := Lib.hid (R4.new w1 x y z t 24)
  have B1 := Lib.hid (hb1.alloc hb1.size (.cells #[.int .i64 x, .int .i64 y, .int .i64 z, .int .i64 t] 24))
  clear hb1 H
  rcases rok_three x y z t with hn | hz | hs
  · have HL := Lib.hid (lossd_no hn)
    have HV := Lib.hid (decide_eq_false hn)
    clear hn
    obtain ⟨c0, c1, c2, c3, fz⟩ := id P1.out
    go_wp2_with fail
    refine (ild_any x y z t _ HC.out).mono ?_
    rw [HL.out]
    rintro e w2 ⟨rfl, hb2⟩
    have P2 := Lib.hid (P1.out.below hb2 P1.out.lt)
    have B2 := Lib.hid (B1.out.trans (hb2.mono B1.out.size))
    obtain ⟨c0, c1, c2, c3, fz⟩ := id P2.out
    clear hb2
    go_wp2_with fail
    refine (sld_any x y z t _).mono ?_
    rw [HL.out]
    rintro e w3 ⟨rfl, hb3⟩
    have P3 := Lib.hid (P2.out.below hb3 P2.out.lt)
    have B3 := Lib.hid (B2.out.trans (hb3.mono B2.out.size))
    obtain ⟨c0, c1, c2, c3, fz⟩ := id P3.out
    clear hb3
    go_wp2_with fail
    refine (svalid_any x y z t _).mono ?_
    rw [HV.out]
    rintro e w4 ⟨rfl, hb4⟩
    have P4 := Lib.hid (P3.out.below hb4 P3.out.lt)
    have B4 := Lib.hid (B3.out.trans (hb4.mono B3.out.size))
    obtain ⟨c0, c1, c2, c3, fz⟩ := id P4.out
    clear hb4
    go_wp2_with fail
    go_ret
    exact ⟨by simp, B4.out⟩
  · have HL := Lib.hid (lossd_z hz)
    have HV := Lib.hid (decide_eq_true (show rok x y z t from .inl hz))
    obtain ⟨rfl, rfl, rfl, rfl⟩ := hz
    obtain ⟨c0, c1, c2, c3, fz⟩ := id P1.out
    go_wp2_with fail
    refine (ild_any 0 0 0 0 _ HC.out).mono ?_
    rw [HL.out]
    rintro e w2 ⟨rfl, hb2⟩
    have P2 := Lib.hid (P1.out.below hb2 P1.out.lt)
    have B2 := Lib.hid (B1.out.trans (hb2.mono B1.out.size))
    obtain ⟨c0, c1, c2, c3, fz⟩ := id P2.out
    clear hb2
    go_wp2_with fail
    refine (sld_any 0 0 0 0 _).mono ?_
    rw [HL.out]
    rintro e w3 ⟨rfl, hb3⟩
    have P3 := Lib.hid (P2.out.below hb3 P2.out.lt)
    have B3 := Lib.hid (B2.out.trans (hb3.mono B2.out.size))
    obtain ⟨c0, c1, c2, c3, fz⟩ := id P3.out
    clear hb3
    go_wp2_with fail
    refine (svalid_any 0 0 0 0 _).mono ?_
    rw [HV.out]
    rintro e w4 ⟨rfl, hb4⟩
    have P4 := Lib.hid (P3.out.below hb4 P3.out.lt)
    have B4 := Lib.hid (B3.out.trans (hb4.mono B3.out.size))
    obtain ⟨c0, c1, c2, c3, fz⟩ := id P4.out
    clear hb4
    go_wp2_with fail
    go_ret
    exact ⟨by simp, B4.out⟩
  · have HL := Lib.hid (lossd_s hs)
    have HV := Lib.hid (decide_eq_true (show rok x y z t from .inr hs))
    have hx : ¬ x = 0 := by unfold rs at hs; omega
    have HU := Lib.hid (show uok x y z t (z / 8) 0 from ⟨.inr hs, by unfold rs at hs; omega, by omega⟩)
    have hun : un y (z / 8) 0 = z / 8 := by unfold un; split <;> omega
    have EC := Lib.hid (show uC x y z (z / 8) 0 = z by rw [uC_pos hx, hun]; omega)
    have ED := Lib.hid (show uD x y z t (z / 8) 0 = t - t / 4 by rw [uD_pos hx, hun]; omega)
    obtain ⟨⟨k1, k2⟩, ⟨k3, k4⟩, ⟨k5, k6⟩, k7, k8⟩ := hs
    obtain ⟨q, hq⟩ : ∃ q, max (z / 8) x + max (z / 8) x / 8 = q := ⟨_, rfl⟩
    have hq0 : z / 8 ≤ q := by omega
    have hx0 : (x == 0) = false := by rw [beq_eq_false_iff_ne]; omega
    have hd1 := decide_eq_true hq0
    obtain ⟨l, hl'⟩ : ∃ l, uL x y (z / 8) = l := ⟨_, rfl⟩
    have UY := Lib.hid (fun W : World => iupd_yes x y z t (z / 8) 0 W HU.out)
    unfold UpdYes at UY
    rw [EC.out, ED.out, hl'] at UY
    rw [hq] at HL
    clear hq hun hx hl'
    obtain ⟨c0, c1, c2, c3, fz⟩ := id P1.out
    go_wp2_with fail
    refine (ild_any x y z t _ HC.out).mono ?_
    rw [HL.out]
    rintro e w2 ⟨rfl, hb2⟩
    have P2 := Lib.hid (P1.out.below hb2 P1.out.lt)
    have B2 := Lib.hid (B1.out.trans (hb2.mono B1.out.size))
    obtain ⟨c0, c1, c2, c3, fz⟩ := id P2.out
    clear hb2
    go_wp2_with fail
    refine (sld_any x y z t _).mono ?_
    rw [HL.out]
    rintro e w3 ⟨rfl, hb3⟩
    have P3 := Lib.hid (P2.out.below hb3 P2.out.lt)
    have B3 := Lib.hid (B2.out.trans (hb3.mono B2.out.size))
    obtain ⟨c0, c1, c2, c3, fz⟩ := id P3.out
    clear hb3
    go_wp2_with fail
    refine (svalid_any x y z t _).mono ?_
    rw [HV.out]
    rintro e w4 ⟨rfl, hb4⟩
    have P4 := Lib.hid (P3.out.below hb4 P3.out.lt)
    have B4 := Lib.hid (B3.out.trans (hb4.mono B3.out.size))
    obtain ⟨c0, c1, c2, c3, fz⟩ := id P4.out
    clear hb4
    go_wp2_with fail
    refine (UY.out _).mono ?_
    rintro e w5 ⟨rfl, hb5⟩
    have P5 := Lib.hid ((P4.out.below hb5 P4.out.lt).alloc (.cells #[.int .i64 (z / 8), .int .i64 l, .int .i64 z, .int .i64 (t - t / 4)] 24))
    have Y5 := Lib.hid (R4.new w5 (z / 8) l z (t - t / 4) 24)
    have B5 := Lib.hid ((B4.out.trans (hb5.mono B4.out.size)).alloc (B4.out.trans (hb5.mono B4.out.size)).size (.cells #[.int .i64 (z / 8), .int .i64 l, .int .i64 z, .int .i64 (t - t / 4)] 24))
    clear c0 c1 c2 c3 fz hb5
    obtain ⟨c0, c1, c2, c3, fz⟩ := id P5.out
    obtain ⟨e0, e1, e2, e3, ez⟩ := id Y5.out
    go_wp2_with fail
    go_ret
    exact ⟨by simp [hq0], B5.out⟩

set_option maxRecDepth 100000 in
set_option maxHeartbeats 4000000 in
theorem rtpr_walk (a : Option Addr) (len cap : Nat) (zs : List Int) (w : World) (h : IsRow .u8 w a len cap zs) :
    Calls Try.prog 9 #[.slice a len cap] w fun e w' => e = .returned (.bool true) ∧ Below w.heap.size w w' := by
  have H := Lib.hid h
  clear h
  by_cases hl : 1048576 < len
  · go_enter Try.func9, Try.ntmps9
    go_wp2
    go_ret
    exact ⟨rfl, Below.refl _ _⟩
  go_enter Try.func9, Try.ntmps9
  go_wp2_with fail
  refine (drawPr_any a len cap zs w H.out).mono ?_
  rintro e w1 ⟨x, y, z, t, k, ⟨hbd, hk1, hk2⟩, rfl, hb1⟩
  have HC := Lib.hid (rbd_c hbd)
  have P1 := Lib.hid (R4.new w1 x y z t 24)
  have B1 := Lib.hid (hb1.alloc hb1.size (.cells #[.int .i64 x, .int .i64 y, .int .i64 z, .int .i64 t] 24))
  clear hb1 H
  by_cases hp : rok x y z t ∧ 0 ≤ k ∧ k ≤ 6
  case neg =>
    have HL := Lib.hid (probe_no hp)
    clear hp
    obtain ⟨c0, c1, c2, c3, fz⟩ := id P1.out
    go_wp2_with fail
    refine (ipr_any x y z t k _ HC.out).mono ?_
    rw [HL.out]
    rintro e w2 ⟨rfl, hb2⟩
    have P2 := Lib.hid (P1.out.below hb2 P1.out.lt)
    have B2 := Lib.hid (B1.out.trans (hb2.mono B1.out.size))
    obtain ⟨c0, c1, c2, c3, fz⟩ := id P2.out
    clear hb2
    go_wp2_with fail
    refine (spr_any x y z t k _).mono ?_
    rw [HL.out]
    rintro e w3 ⟨rfl, hb3⟩
    have P3 := Lib.hid (P2.out.below hb3 P2.out.lt)
    have B3 := Lib.hid (B2.out.trans (hb3.mono B2.out.size))
    obtain ⟨c0, c1, c2, c3, fz⟩ := id P3.out
    clear hb3
    go_wp2_with fail
    go_ret
    exact ⟨by simp, B3.out⟩
  obtain ⟨hv, hk⟩ := hp
  obtain ⟨hq1, hq2⟩ := probe_bd hv hk
  obtain ⟨q, hq⟩ : ∃ q, probe x y z t k = q := ⟨_, rfl⟩
  rw [hq] at hq1 hq2
  have HL := Lib.hid hq
  have hq0 : (q == 0) = false := by rw [beq_eq_false_iff_ne]; omega
  by_cases h6 : k = 6
  · have h6' : (k == 6) = true := by rw [beq_iff_eq]; exact h6
    clear hq h6
    obtain ⟨c0, c1, c2, c3, fz⟩ := id P1.out
    go_wp2_with fail
    refine (ipr_any x y z t k _ HC.out).mono ?_
    rw [HL.out]
    rintro e w2 ⟨rfl, hb2⟩
    have P2 := Lib.hid (P1.out.below hb2 P1.out.lt)
    have B2 := Lib.hid (B1.out.trans (hb2.mono B1.out.size))
    obtain ⟨c0, c1, c2, c3, fz⟩ := id P2.out
    clear hb2
    go_wp2_with fail
    refine (spr_any x y z t k _).mono ?_
    rw [HL.out]
    rintro e w3 ⟨rfl, hb3⟩
    have P3 := Lib.hid (P2.out.below hb3 P2.out.lt)
    have B3 := Lib.hid (B2.out.trans (hb3.mono B2.out.size))
    obtain ⟨c0, c1, c2, c3, fz⟩ := id P3.out
    clear hb3
    go_wp2_with fail
    go_ret
    exact ⟨by simp, B3.out⟩
  · have h6' : (k == 6) = false := by rw [beq_eq_false_iff_ne]; exact h6
    have H2 := Lib.hid (show probe x y z t (k + 1) = 2 * q by rw [← hq]; exact probe_two hv ⟨hk.1, by omega⟩)
    clear hq h6 hv
    obtain ⟨c0, c1, c2, c3, fz⟩ := id P1.out
    go_wp2_with fail
    refine (ipr_any x y z t k _ HC.out).mono ?_
    rw [HL.out]
    rintro e w2 ⟨rfl, hb2⟩
    have P2 := Lib.hid (P1.out.below hb2 P1.out.lt)
    have B2 := Lib.hid (B1.out.trans (hb2.mono B1.out.size))
    obtain ⟨c0, c1, c2, c3, fz⟩ := id P2.out
    clear hb2
    go_wp2_with fail
    refine (spr_any x y z t k _).mono ?_
    rw [HL.out]
    rintro e w3 ⟨rfl, hb3⟩
    have P3 := Lib.hid (P2.out.below hb3 P2.out.lt)
    have B3 := Lib.hid (B2.out.trans (hb3.mono B2.out.size))
    obtain ⟨c0, c1, c2, c3, fz⟩ := id P3.out
    clear hb3
    go_wp2_with fail
    refine (ipr_any x y z t (k + 1) _ HC.out).mono ?_
    rw [H2.out]
    rintro e w4 ⟨rfl, hb4⟩
    have P4 := Lib.hid (P3.out.below hb4 P3.out.lt)
    have B4 := Lib.hid (B3.out.trans (hb4.mono B3.out.size))
    obtain ⟨c0, c1, c2, c3, fz⟩ := id P4.out
    clear hb4
    go_wp2_with fail
    go_ret
    exact ⟨by simp, B4.out⟩

set_option maxRecDepth 100000 in
set_option maxHeartbeats 4000000 in
theorem rtpm_walk (a : Option Addr) (len cap : Nat) (zs : List Int) (w : World) (h : IsRow .u8 w a len cap zs) :
    Calls Try.prog 10 #[.slice a len cap] w fun e w' => e = .returned (.bool true) ∧ Below w.heap.size w w' := by
  have H := Lib.hid h
  clear h
  by_cases hl : 1048576 < len
  · go_enter Try.func10, Try.ntmps10
    go_wp2
    go_ret
    exact ⟨rfl, Below.refl _ _⟩
  go_enter Try.func10, Try.ntmps10
  go_wp2_with fail
  refine (drawPr_any a len cap zs w H.out).mono ?_
  rintro e w1 ⟨x, y, z, t, k, ⟨hbd, hk1, hk2⟩, rfl, hb1⟩
  have HC := Lib.hid (rbd_c hbd)
  have P1 := Lib.hid (R4.new w1 x y z t 24)
  have B1 := Lib.hid (hb1.alloc hb1.size (.cells #[.int .i64 x, .int .i64 y, .int .i64 z, .int .i64 t] 24))
  clear hb1 H
  by_cases hp : rok x y z t ∧ 0 ≤ k ∧ k ≤ 6
  case neg =>
    have HL := Lib.hid (probe_no hp)
    clear hp
    obtain ⟨c0, c1, c2, c3, fz⟩ := id P1.out
    go_wp2_with fail
    refine (ipr_any x y z t k _ HC.out).mono ?_
    rw [HL.out]
    rintro e w2 ⟨rfl, hb2⟩
    have P2 := Lib.hid (P1.out.below hb2 P1.out.lt)
    have B2 := Lib.hid (B1.out.trans (hb2.mono B1.out.size))
    obtain ⟨c0, c1, c2, c3, fz⟩ := id P2.out
    clear hb2
    go_wp2_with fail
    refine (spr_any x y z t k _).mono ?_
    rw [HL.out]
    rintro e w3 ⟨rfl, hb3⟩
    have P3 := Lib.hid (P2.out.below hb3 P2.out.lt)
    have B3 := Lib.hid (B2.out.trans (hb3.mono B2.out.size))
    obtain ⟨c0, c1, c2, c3, fz⟩ := id P3.out
    clear hb3
    go_wp2_with fail
    go_ret
    exact ⟨by simp, B3.out⟩
  obtain ⟨hv, hk⟩ := hp
  obtain ⟨hq1, hq2⟩ := probe_bd hv hk
  obtain ⟨q, hq⟩ : ∃ q, probe x y z t k = q := ⟨_, rfl⟩
  rw [hq] at hq1 hq2
  have HL := Lib.hid hq
  have hq0 : (q == 0) = false := by rw [beq_eq_false_iff_ne]; omega
  have hpr := pr0_bd hv
  have H2 := Lib.hid (show probe x y z t 0 = pr0 x z t by unfold probe; rw [if_pos ⟨hv, by omega, by omega⟩]; simp)
  obtain ⟨n, hn⟩ : ∃ n, pr0 x z t = n := ⟨_, rfl⟩
  rw [hn] at hpr H2
  obtain ⟨hp1, hp2, hp3⟩ := hpr
  clear hq
  rcases hv with hz | hs
  · have hn' : n = 100 := by rw [← hn]; unfold pr0; rw [if_pos hz.1]
    obtain ⟨rfl, rfl, rfl, rfl⟩ := hz
    subst hn'
    clear hn
    obtain ⟨c0, c1, c2, c3, fz⟩ := id P1.out
    go_wp2_with fail
    refine (ipr_any 0 0 0 0 k _ HC.out).mono ?_
    rw [HL.out]
    rintro e w2 ⟨rfl, hb2⟩
    have P2 := Lib.hid (P1.out.below hb2 P1.out.lt)
    have B2 := Lib.hid (B1.out.trans (hb2.mono B1.out.size))
    obtain ⟨c0, c1, c2, c3, fz⟩ := id P2.out
    clear hb2
    go_wp2_with fail
    refine (spr_any 0 0 0 0 k _).mono ?_
    rw [HL.out]
    rintro e w3 ⟨rfl, hb3⟩
    have P3 := Lib.hid (P2.out.below hb3 P2.out.lt)
    have B3 := Lib.hid (B2.out.trans (hb3.mono B2.out.size))
    obtain ⟨c0, c1, c2, c3, fz⟩ := id P3.out
    clear hb3
    go_wp2_with fail
    refine (ipr_any 0 0 0 0 0 _ HC.out).mono ?_
    rw [H2.out]
    rintro e w4 ⟨rfl, hb4⟩
    have P4 := Lib.hid (P3.out.below hb4 P3.out.lt)
    have B4 := Lib.hid (B3.out.trans (hb4.mono B3.out.size))
    obtain ⟨c0, c1, c2, c3, fz⟩ := id P4.out
    clear hb4
    go_wp2_with fail
    go_ret
    exact ⟨by simp, B4.out⟩
  · obtain ⟨⟨k1, k2⟩, ⟨k3, k4⟩, ⟨k5, k6⟩, k7, k8⟩ := hs
    have hd1 := decide_eq_true hp3
    have hx0 : 0 < x := by omega
    have hd2 := decide_eq_true hx0
    clear hn
    obtain ⟨c0, c1, c2, c3, fz⟩ := id P1.out
    go_wp2_with fail
    refine (ipr_any x y z t k _ HC.out).mono ?_
    rw [HL.out]
    rintro e w2 ⟨rfl, hb2⟩
    have P2 := Lib.hid (P1.out.below hb2 P1.out.lt)
    have B2 := Lib.hid (B1.out.trans (hb2.mono B1.out.size))
    obtain ⟨c0, c1, c2, c3, fz⟩ := id P2.out
    clear hb2
    go_wp2_with fail
    refine (spr_any x y z t k _).mono ?_
    rw [HL.out]
    rintro e w3 ⟨rfl, hb3⟩
    have P3 := Lib.hid (P2.out.below hb3 P2.out.lt)
    have B3 := Lib.hid (B2.out.trans (hb3.mono B2.out.size))
    obtain ⟨c0, c1, c2, c3, fz⟩ := id P3.out
    clear hb3
    go_wp2_with fail
    refine (ipr_any x y z t 0 _ HC.out).mono ?_
    rw [H2.out]
    rintro e w4 ⟨rfl, hb4⟩
    have P4 := Lib.hid (P3.out.below hb4 P3.out.lt)
    have B4 := Lib.hid (B3.out.trans (hb4.mono B3.out.size))
    obtain ⟨c0, c1, c2, c3, fz⟩ := id P4.out
    clear hb4
    go_wp2_with fail
    go_ret
    exact ⟨by simp [hp3, hx0], B4.out⟩

set_option maxRecDepth 100000 in
set_option maxHeartbeats 4000000 in
theorem rtpv_walk (a : Option Addr) (len cap : Nat) (zs : List Int) (a1 : Option Addr) (len1 cap1 : Nat) (zs1 : List Int) (w : World) (h : IsRow .u8 w a len cap zs) (h1 : IsRow .u8 w a1 len1 cap1 zs1) :
    Calls Try.prog 13 #[.slice a len cap, .slice a1 len1 cap1] w fun e w' => e = .returned (.bool true) ∧ Below w.heap.size w w' := by
  have H := Lib.hid h
  clear h
  by_cases hl : 1048576 < len
  · go_enter Try.func13, Try.ntmps13
    go_wp2
    go_ret
    exact ⟨rfl, Below.refl _ _⟩
  clear h1
  by_cases hl1 : 1048576 < len1
  · go_enter Try.func13, Try.ntmps13
    go_wp2
    go_ret
    exact ⟨rfl, Below.refl _ _⟩
  go_enter Try.func13, Try.ntmps13
  go_wp2_with fail
  refine (drawPr_any a len cap zs w H.out).mono ?_
  rintro e w1 ⟨x, y, z, t, k, ⟨hbd, hk1, hk2⟩, rfl, hb1⟩
  have HC := Lib.hid (rbd_c hbd)
  have P1 := Lib.hid (R4.new w1 x y z t 24)
  have B1 := Lib.hid (hb1.alloc hb1.size (.cells #[.int .i64 x, .int .i64 y, .int .i64 z, .int .i64 t] 24))
  clear hb1 H
  by_cases hp : rok x y z t ∧ 0 ≤ k ∧ k ≤ 6
  case neg =>
    have HL := Lib.hid (probe_no hp)
    clear hp
    obtain ⟨c0, c1, c2, c3, fz⟩ := id P1.out
    go_wp2_with fail
    refine (ipr_any x y z t k _ HC.out).mono ?_
    rw [HL.out]
    rintro e w2 ⟨rfl, hb2⟩
    have P2 := Lib.hid (P1.out.below hb2 P1.out.lt)
    have B2 := Lib.hid (B1.out.trans (hb2.mono B1.out.size))
    obtain ⟨c0, c1, c2, c3, fz⟩ := id P2.out
    clear hb2
    go_wp2_with fail
    refine (spr_any x y z t k _).mono ?_
    rw [HL.out]
    rintro e w3 ⟨rfl, hb3⟩
    have P3 := Lib.hid (P2.out.below hb3 P2.out.lt)
    have B3 := Lib.hid (B2.out.trans (hb3.mono B2.out.size))
    obtain ⟨c0, c1, c2, c3, fz⟩ := id P3.out
    clear hb3
    go_wp2_with fail
    go_ret
    exact ⟨by simp, B3.out⟩
  obtain ⟨hv, hk⟩ := hp
  obtain ⟨hq1, hq2⟩ := probe_bd hv hk
  obtain ⟨q, hq⟩ : ∃ q, probe x y z t k = q := ⟨_, rfl⟩
  rw [hq] at hq1 hq2
  have HL := Lib.hid hq
  have hq0 : (q == 0) = false := by rw [beq_eq_false_iff_ne]; omega
  rcases hv with hz | hs
  · obtain ⟨rfl, rfl, rfl, rfl⟩ := hz
    clear hq
    obtain ⟨c0, c1, c2, c3, fz⟩ := id P1.out
    go_wp2_with fail
    refine (ipr_any 0 0 0 0 k _ HC.out).mono ?_
    rw [HL.out]
    rintro e w2 ⟨rfl, hb2⟩
    have P2 := Lib.hid (P1.out.below hb2 P1.out.lt)
    have B2 := Lib.hid (B1.out.trans (hb2.mono B1.out.size))
    obtain ⟨c0, c1, c2, c3, fz⟩ := id P2.out
    clear hb2
    go_wp2_with fail
    refine (spr_any 0 0 0 0 k _).mono ?_
    rw [HL.out]
    rintro e w3 ⟨rfl, hb3⟩
    have P3 := Lib.hid (P2.out.below hb3 P2.out.lt)
    have B3 := Lib.hid (B2.out.trans (hb3.mono B2.out.size))
    obtain ⟨c0, c1, c2, c3, fz⟩ := id P3.out
    clear hb3
    go_wp2_with fail
    go_ret
    exact ⟨by simp, B3.out⟩
  · obtain ⟨m, hm⟩ : ∃ m : Int, (len1 : Int) % 50 = m := ⟨_, rfl⟩
    have hm1 : 0 ≤ m ∧ m ≤ 49 := by omega
    have ht1 : (len1 : Int).tmod 50 = m := by rw [← hm]; exact Int.tmod_eq_emod_of_nonneg (by omega)
    obtain ⟨d, hd⟩ : ∃ d, (if 3999 < t + m then 3999 else t + m) = d := ⟨_, rfl⟩
    have hd1 : t ≤ d ∧ d ≤ 3999 := by
      have := hs.2.2.2
      rw [← hd]; split <;> omega
    have hs' : rs x y z d := ⟨hs.1, hs.2.1, hs.2.2.1, by have := hs.2.2.2; omega, hd1.2⟩
    obtain ⟨q', hq'⟩ : ∃ q', probe x y z d k = q' := ⟨_, rfl⟩
    have hle : q ≤ q' := by rw [← hq, ← hq']; exact probe_le (.inr hs) (.inr hs') hd1.1
    have H2 := Lib.hid hq'
    have hdd := decide_eq_true hle
    obtain ⟨⟨k1, k2⟩, ⟨k3, k4⟩, ⟨k5, k6⟩, k7, k8⟩ := hs
    have hx0 : (x == 0) = false := by rw [beq_eq_false_iff_ne]; omega
    have hw1 : IntKind.i64.wrap (t + m) = t + m := IntWalk.i64_in _ (by omega)
    clear hq hq' hs' hm
    obtain ⟨c0, c1, c2, c3, fz⟩ := id P1.out
    go_wp2_with fail
    refine (ipr_any x y z t k _ HC.out).mono ?_
    rw [HL.out]
    rintro e w2 ⟨rfl, hb2⟩
    have P2 := Lib.hid (P1.out.below hb2 P1.out.lt)
    have B2 := Lib.hid (B1.out.trans (hb2.mono B1.out.size))
    obtain ⟨c0, c1, c2, c3, fz⟩ := id P2.out
    clear hb2
    go_wp2_with fail
    refine (spr_any x y z t k _).mono ?_
    rw [HL.out]
    rintro e w3 ⟨rfl, hb3⟩
    have P3 := Lib.hid (P2.out.below hb3 P2.out.lt)
    have B3 := Lib.hid (B2.out.trans (hb3.mono B2.out.size))
    obtain ⟨c0, c1, c2, c3, fz⟩ := id P3.out
    clear hb3
    have PA := Lib.hid (P3.out.alloc (.cells #[.int .i64 x, .int .i64 y, .int .i64 z, .int .i64 t] 24))
    have pa3 := PA.out.c3
    go_wp2_with fail
    refine (ipr_any x y z d k _ HC.out).mono ?_
    rw [H2.out]
    rintro e w4 ⟨rfl, hb4⟩
    have B4 := Lib.hid ((B3.out.alloc B3.out.size (.cells #[.int .i64 x, .int .i64 y, .int .i64 z, .int .i64 d] 24)).trans (hb4.mono (B3.out.alloc B3.out.size (.cells #[.int .i64 x, .int .i64 y, .int .i64 z, .int .i64 d] 24)).size))
    clear hb4
    go_wp2_with fail
    go_ret
    exact ⟨by simp [hle], B4.out⟩

end Go.Proofs.Ytlhjhdlpejpooaa
