/- The laws NumberRoundTrip, NumberLate, NumberLonger: the walks. -/
import Derived.Test.YtppeacpklcdggaaINb
import Derived.Test.YtppeacpklcdggaaDrNb
namespace Go.Proofs.Ytppeacpklcdggaa
open Go.RowKit
set_option linter.unusedVariables false
set_option linter.unusedSimpArgs false

set_option maxRecDepth 100000 in
set_option maxHeartbeats 2000000 in
theorem nround_walk (a : Option Addr) (len cap : Nat) (zs : List Int) (a1 : Option Addr) (len1 cap1 : Nat) (zs1 : List Int) (w : World) (h : IsRow .u8 w a len cap zs) (h1 : IsRow .u8 w a1 len1 cap1 zs1) :
    Calls Try.prog 3 #[.slice a len cap, .slice a1 len1 cap1] w fun e w' => e = .returned (.bool true) ∧ Below w.heap.size w w' := by
  have H := Lib.hid h
  clear h h1
  by_cases hl : 1048576 < len
  · go_enter Try.func3, Try.ntmps3
    go_wp2
    go_ret
    exact ⟨rfl, Below.refl _ _⟩
  by_cases hl1 : 1048576 < len1
  · go_enter Try.func3, Try.ntmps3
    go_wp2
    go_ret
    exact ⟨rfl, Below.refl _ _⟩
  go_enter Try.func3, Try.ntmps3
  go_wp2_with fail
  refine (drawNBits_any a len cap zs w H.out).mono ?_
  rintro e w1 ⟨f, k, ⟨⟨hf0, hf9⟩, hk0, hk9⟩, rfl, hb1⟩
  have B1 := Lib.hid hb1
  clear hb1
  go_wp2_with fail
  refine (inbits_any f k w1).mono ?_
  rintro e w2 ⟨rfl, hb2⟩
  have B2 := Lib.hid (B1.out.trans (hb2.mono B1.out.size))
  clear hb2
  go_wp2_with fail
  refine (snbits_any f k w2).mono ?_
  rintro e w3 ⟨rfl, hb3⟩
  have B3 := Lib.hid (B2.out.trans (hb3.mono B2.out.size))
  clear hb3
  by_cases hz : nbits f k = 0
  · have hzb : (nbits f k == 0) = true := by rw [beq_iff_eq]; exact hz
    go_wp2_with fail
    refine (snbits_any f k w3).mono ?_
    rintro e w4 ⟨rfl, hb4⟩
    have B4 := Lib.hid (B3.out.trans (hb4.mono B3.out.size))
    clear hb4
    go_wp2_with fail
    go_ret
    exact ⟨by simp [hz], B4.out⟩
  have hzb : (nbits f k == 0) = false := by rw [beq_eq_false_iff_ne]; exact hz
  have hok : 0 ≤ f ∧ f ≤ 999 ∧ -1 ≤ k ∧ k ≤ f - 1 := by
    rcases nbits_cases f k with ⟨h0, _⟩ | ⟨hk, _⟩
    · exact absurd h0 hz
    · exact hk
  have HZ := Lib.hid hz
  obtain ⟨k1, k2, k3, k4⟩ := hok
  obtain ⟨m, hm⟩ : ∃ m : Int, (len1 : Int) % (f - k) = m := ⟨_, rfl⟩
  have hm0 : 0 ≤ m := by rw [← hm]; exact Int.emod_nonneg _ (by omega)
  have hm1 : m < f - k := by rw [← hm]; exact Int.emod_lt_of_pos _ (by omega)
  have hmt : Int.tmod (len1 : Int) (f - k) = m := by rw [← hm]; exact Int.tmod_eq_emod_of_nonneg (by omega)
  have hne : ¬ f - k = 0 := by omega
  have q1 : IntKind.i64.wrap (f - k) = f - k := IntWalk.i64_in _ (by omega)
  have q2 : IntKind.i64.wrap (k + m) = k + m := IntWalk.i64_in _ (by omega)
  have q3 : IntKind.i64.wrap (f - 1) = f - 1 := IntWalk.i64_in _ (by omega)
  have R1 := Lib.hid (nexp_round (g := k + m) HZ.out (.inl rfl) (by omega) (by omega))
  have R2 := Lib.hid (nexp_round (g := k) HZ.out (.inl rfl) (by omega) (by omega))
  have R3 := Lib.hid (nexp_round (g := f - 1) HZ.out (.inl rfl) (by omega) (by omega))
  clear hz
  go_wp2_with fail
  refine (intrunc_any f _ _).mono ?_
  rintro e w5 ⟨rfl, hb5⟩
  have B5 := Lib.hid (B3.out.trans (hb5.mono B3.out.size))
  clear hb5
  go_wp2_with fail
  refine (inexp_any _ _ _ _).mono ?_
  rw [R1.out]
  rintro e w6 ⟨rfl, hb6⟩
  have B6 := Lib.hid (B5.out.trans (hb6.mono B5.out.size))
  clear hb6
  go_wp2_with fail
  refine (intrunc_any f _ _).mono ?_
  rintro e w7 ⟨rfl, hb7⟩
  have B7 := Lib.hid (B6.out.trans (hb7.mono B6.out.size))
  clear hb7
  go_wp2_with fail
  refine (inexp_any _ _ _ _).mono ?_
  rw [R2.out]
  rintro e w8 ⟨rfl, hb8⟩
  have B8 := Lib.hid (B7.out.trans (hb8.mono B7.out.size))
  clear hb8
  go_wp2_with fail
  refine (intrunc_any f _ _).mono ?_
  rintro e w9 ⟨rfl, hb9⟩
  have B9 := Lib.hid (B8.out.trans (hb9.mono B8.out.size))
  clear hb9
  go_wp2_with fail
  refine (inexp_any _ _ _ _).mono ?_
  rw [R3.out]
  rintro e w10 ⟨rfl, hb10⟩
  have B10 := Lib.hid (B9.out.trans (hb10.mono B9.out.size))
  clear hb10
  go_wp2_with fail
  go_ret
  exact ⟨rfl, B10.out⟩

set_option maxRecDepth 100000 in
set_option maxHeartbeats 2000000 in
theorem nlate_walk (a : Option Addr) (len cap : Nat) (zs : List Int) (a1 : Option Addr) (len1 cap1 : Nat) (zs1 : List Int) (w : World) (h : IsRow .u8 w a len cap zs) (h1 : IsRow .u8 w a1 len1 cap1 zs1) :
    Calls Try.prog 4 #[.slice a len cap, .slice a1 len1 cap1] w fun e w' => e = .returned (.bool true) ∧ Below w.heap.size w w' := by
  have H := Lib.hid h
  clear h h1
  by_cases hl : 1048576 < len
  · go_enter Try.func4, Try.ntmps4
    go_wp2
    go_ret
    exact ⟨rfl, Below.refl _ _⟩
  by_cases hl1 : 1048576 < len1
  · go_enter Try.func4, Try.ntmps4
    go_wp2
    go_ret
    exact ⟨rfl, Below.refl _ _⟩
  go_enter Try.func4, Try.ntmps4
  go_wp2_with fail
  refine (drawNTrunc_any a len cap zs w H.out).mono ?_
  rintro e w1 ⟨f, b, ⟨⟨hf0, hf9⟩, hk0, hk9⟩, rfl, hb1⟩
  have B1 := Lib.hid hb1
  clear hb1
  go_wp2_with fail
  refine (intrunc_any f b w1).mono ?_
  rintro e w2 ⟨rfl, hb2⟩
  have B2 := Lib.hid (B1.out.trans (hb2.mono B1.out.size))
  clear hb2
  go_wp2_with fail
  refine (strunc_any f b w2).mono ?_
  rintro e w3 ⟨rfl, hb3⟩
  have B3 := Lib.hid (B2.out.trans (hb3.mono B2.out.size))
  clear hb3
  obtain ⟨v, hv⟩ : ∃ v, ntrunc f b = v := ⟨_, rfl⟩
  rw [hv]
  by_cases hz : v < 0
  · have HV := Lib.hid hv
    clear hv
    go_wp2_with fail
    refine (strunc_any f b w3).mono ?_
    rw [HV.out]
    rintro e w4 ⟨rfl, hb4⟩
    have B4 := Lib.hid (B3.out.trans (hb4.mono B3.out.size))
    clear hb4
    go_wp2_with fail
    go_ret
    exact ⟨by simp, B4.out⟩
  have hfp := ntrunc_parts (f := f) (b := b) (by omega)
  have HV := Lib.hid hv
  obtain ⟨p1, p2, _, _⟩ := hfp
  by_cases hb4 : 4 < b
  · obtain ⟨m, hm⟩ : ∃ m : Int, (len1 : Int) % 127 = m := ⟨_, rfl⟩
    have hm0 : 0 ≤ m ∧ m < 127 := by omega
    have hmt : Int.tmod (len1 : Int) 127 = m := by rw [← hm]; exact Int.tmod_eq_emod_of_nonneg (by omega)
    have R := Lib.hid (nexp_late (m := m) (f := f) (b := b) (by omega) hm0.1 (by rw [if_pos hb4]; omega))
    have q1 : IntKind.i64.wrap (f + m) = f + m := IntWalk.i64_in _ (by omega)
    have HM := Lib.hid hm
    clear hv hm
    by_cases hmx : f + m ≤ 999
    · have HX := Lib.hid (show min (f + m) 999 = f + m by omega)
      have hmx2 : ¬ 999 < f + m := by omega
      go_wp2_with fail
      refine (inexp_any _ _ _ _).mono ?_
      rw [← HX.out, ← HV.out, R.out]
      rintro e w5 ⟨rfl, hb5⟩
      have B5 := Lib.hid (B3.out.trans (hb5.mono B3.out.size))
      clear hb5
      go_wp2_with fail
      go_ret
      exact ⟨by simp, B5.out⟩
    · have HX := Lib.hid (show min (f + m) 999 = 999 by omega)
      have hmx2 : 999 < f + m := by omega
      go_wp2_with fail
      refine (inexp_any _ _ _ _).mono ?_
      have R2 := R.out
      rw [HX.out, HV.out] at R2
      rw [R2]
      rintro e w5 ⟨rfl, hb5⟩
      have B5 := Lib.hid (B3.out.trans (hb5.mono B3.out.size))
      clear hb5
      go_wp2_with fail
      go_ret
      exact ⟨by simp, B5.out⟩
  · obtain ⟨m, hm⟩ : ∃ m : Int, (len1 : Int) % 7 = m := ⟨_, rfl⟩
    have hm0 : 0 ≤ m ∧ m < 7 := by omega
    have hmt : Int.tmod (len1 : Int) 7 = m := by rw [← hm]; exact Int.tmod_eq_emod_of_nonneg (by omega)
    have R := Lib.hid (nexp_late (m := m) (f := f) (b := b) (by omega) hm0.1 (by rw [if_neg hb4]; omega))
    have q1 : IntKind.i64.wrap (f + m) = f + m := IntWalk.i64_in _ (by omega)
    have HM := Lib.hid hm
    clear hv hm
    by_cases hmx : f + m ≤ 999
    · have HX := Lib.hid (show min (f + m) 999 = f + m by omega)
      have hmx2 : ¬ 999 < f + m := by omega
      go_wp2_with fail
      refine (inexp_any _ _ _ _).mono ?_
      rw [← HX.out, ← HV.out, R.out]
      rintro e w5 ⟨rfl, hb5⟩
      have B5 := Lib.hid (B3.out.trans (hb5.mono B3.out.size))
      clear hb5
      go_wp2_with fail
      go_ret
      exact ⟨by simp, B5.out⟩
    · have HX := Lib.hid (show min (f + m) 999 = 999 by omega)
      have hmx2 : 999 < f + m := by omega
      go_wp2_with fail
      refine (inexp_any _ _ _ _).mono ?_
      have R2 := R.out
      rw [HX.out, HV.out] at R2
      rw [R2]
      rintro e w5 ⟨rfl, hb5⟩
      have B5 := Lib.hid (B3.out.trans (hb5.mono B3.out.size))
      clear hb5
      go_wp2_with fail
      go_ret
      exact ⟨by simp, B5.out⟩

set_option maxRecDepth 100000 in
set_option maxHeartbeats 2000000 in
theorem nlonger_walk (a : Option Addr) (len cap : Nat) (zs : List Int) (w : World) (h : IsRow .u8 w a len cap zs) :
    Calls Try.prog 10 #[.slice a len cap] w fun e w' => e = .returned (.bool true) ∧ Below w.heap.size w w' := by
  have H := Lib.hid h
  clear h
  by_cases hl : 1048576 < len
  · go_enter Try.func10, Try.ntmps10
    go_wp2
    go_ret
    exact ⟨rfl, Below.refl _ _⟩
  go_enter Try.func10, Try.ntmps10
  go_wp2_with fail
  refine (drawNBits_any a len cap zs w H.out).mono ?_
  rintro e w1 ⟨f, k, ⟨⟨hf0, hf9⟩, hk0, hk9⟩, rfl, hb1⟩
  have B1 := Lib.hid hb1
  clear hb1
  go_wp2_with fail
  refine (inbits_any f k w1).mono ?_
  rintro e w2 ⟨rfl, hb2⟩
  have B2 := Lib.hid (B1.out.trans (hb2.mono B1.out.size))
  clear hb2
  go_wp2_with fail
  refine (snbits_any f k w2).mono ?_
  rintro e w3 ⟨rfl, hb3⟩
  have B3 := Lib.hid (B2.out.trans (hb3.mono B2.out.size))
  clear hb3
  obtain ⟨n, hn⟩ : ∃ n, nbits f k = n := ⟨_, rfl⟩
  rw [hn]
  have HN := Lib.hid hn
  by_cases hz : n = 0
  · have hzb : (n == 0) = true := by rw [beq_iff_eq]; exact hz
    clear hn
    go_wp2_with fail
    go_ret
    exact ⟨by simp, B3.out⟩
  have hzb : (n == 0) = false := by rw [beq_eq_false_iff_ne]; exact hz
  by_cases h12 : n = 12
  · have h12b : (n == 12) = true := by rw [beq_iff_eq]; exact h12
    clear hn
    go_wp2_with fail
    go_ret
    exact ⟨by simp, B3.out⟩
  have h12b : (n == 12) = false := by rw [beq_eq_false_iff_ne]; exact h12
  have hbd := nbits_bnd f k
  rw [hn] at hbd
  have q1 : IntKind.i64.wrap (n + 4) = n + 4 := IntWalk.i64_in _ (by omega)
  have hok : k ≤ f - 1 := by
    rcases nbits_cases f k with ⟨h0, _⟩ | ⟨hk, _⟩
    · omega
    · exact hk.2.2.2
  have R := Lib.hid (nexp_round (f := f) (a := k) (g := k) (b := n + 4) (by omega) (.inr ⟨by omega, by omega⟩) (by omega) (by omega))
  clear hn hz h12
  go_wp2_with fail
  refine (intrunc_any f _ _).mono ?_
  rintro e w5 ⟨rfl, hb5⟩
  have B5 := Lib.hid (B3.out.trans (hb5.mono B3.out.size))
  clear hb5
  go_wp2_with fail
  refine (inexp_any _ _ _ _).mono ?_
  rw [R.out]
  rintro e w6 ⟨rfl, hb6⟩
  have B6 := Lib.hid (B5.out.trans (hb6.mono B5.out.size))
  clear hb6
  go_wp2_with fail
  go_ret
  exact ⟨by simp, B6.out⟩

end Go.Proofs.Ytppeacpklcdggaa
