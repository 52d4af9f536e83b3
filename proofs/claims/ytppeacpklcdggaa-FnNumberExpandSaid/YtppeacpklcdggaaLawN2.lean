/- The laws NumberBitsLeast, NumberBitsOrder, NumberTruncate: the walks. -/
import Derived.Test.YtppeacpklcdggaaINb
import Derived.Test.YtppeacpklcdggaaDrNb
namespace Go.Proofs.Ytppeacpklcdggaa
open Go.RowKit
set_option linter.unusedVariables false
set_option linter.unusedSimpArgs false

/-- 2 to the power of a length. -/
theorem pow_size {b : Int} {i : Nat} (hb : nsz b ≠ 0) (hi : (i : Int) = b) : ((2 ^ i : Nat) : Int) = nsz b := by
  rcases nsz_cases b with ⟨h, e⟩ | ⟨h, e⟩ | ⟨h, e⟩ | ⟨_, _, _, e⟩
  · rw [e, show i = 4 by omega]; rfl
  · rw [e, show i = 8 by omega]; rfl
  · rw [e, show i = 12 by omega]; rfl
  · exact absurd e hb
theorem pow_bnd {i : Nat} (h : i ≤ 12) : 1 ≤ ((2 ^ i : Nat) : Int) ∧ ((2 ^ i : Nat) : Int) ≤ 4096 := by
  have h2 : 2 ^ i ≤ 2 ^ 12 := Nat.pow_le_pow_right (by omega) h
  have h1 : 1 ≤ 2 ^ i := Nat.one_le_two_pow
  omega

set_option maxRecDepth 100000 in
set_option maxHeartbeats 2000000 in
theorem nleast_walk (a : Option Addr) (len cap : Nat) (zs : List Int) (w : World) (h : IsRow .u8 w a len cap zs) :
    Calls Try.prog 5 #[.slice a len cap] w fun e w' => e = .returned (.bool true) ∧ Below w.heap.size w w' := by
  have H := Lib.hid h
  clear h
  by_cases hl : 1048576 < len
  · go_enter Try.func5, Try.ntmps5
    go_wp2
    go_ret
    exact ⟨rfl, Below.refl _ _⟩
  go_enter Try.func5, Try.ntmps5
  go_wp2_with fail
  refine (drawNBits_any a len cap zs w H.out).mono ?_
  rintro e w1 ⟨f, k, ⟨⟨hf0, hf9⟩, hk0, hk9⟩, rfl, hb1⟩
  have B1 := Lib.hid hb1
  clear hb1
  go_wp2_with fail
  refine (inbits_any f k w1).mono ?_
  rintro e w2 ⟨rfl, hb2⟩
  have B2 := Lib.hid (B1.out.trans (hb2.mono B1.out.size))
  clear hb2
  go_wp2_with fail
  refine (snbits_any f k w2).mono ?_
  rintro e w3 ⟨rfl, hb3⟩
  have B3 := Lib.hid (B2.out.trans (hb3.mono B2.out.size))
  clear hb3
  obtain ⟨n, hn⟩ : ∃ n, nbits f k = n := ⟨_, rfl⟩
  rw [hn]
  by_cases hz : n = 0
  · have hzb : (n == 0) = true := by rw [beq_iff_eq]; exact hz
    clear hn
    go_wp2_with fail
    go_ret
    exact ⟨by simp, B3.out⟩
  have hzb : (n == 0) = false := by rw [beq_eq_false_iff_ne]; exact hz
  have hc : (k ≤ f - 1 ∧ -1 ≤ k ∧ f ≤ 999) ∧ ((n = 4 ∧ 2 * (f - k) < 16) ∨ (n = 8 ∧ 16 ≤ 2 * (f - k) ∧ 2 * (f - k) < 256) ∨ (n = 12 ∧ 256 ≤ 2 * (f - k) ∧ 2 * (f - k) < 4096)) := by
    rcases nbits_cases f k with ⟨h0, _⟩ | ⟨hk, hc⟩
    · omega
    · rw [hn] at hc; unfold nbOk at hk; exact ⟨⟨by omega, by omega, by omega⟩, hc⟩
  obtain ⟨⟨hc1, hc2, hc3⟩, hc⟩ := hc
  have hn0 : 4 ≤ n ∧ n ≤ 12 := by omega
  have HC := Lib.hid hc
  have q1 : IntKind.i64.wrap (f - k) = f - k := IntWalk.i64_in _ (by omega)
  have q2 : IntKind.i64.wrap (2 * (f - k)) = 2 * (f - k) := IntWalk.i64_in _ (by omega)
  clear hn hc hz
  go_wp2_with fail
  go_loopw [7, 8] (fun sv iv wr => ∃ (i : Nat) (s : Int), (i : Int) ≤ n ∧ sv = .int .i64 s ∧ iv = .int .i64 i ∧ Hid (s = ((2 ^ i : Nat) : Int)) ∧ wr = w3) (fun _ iv _ => (n - intOf iv).toNat)
  case atStart => exact ⟨0, 1, by omega, rfl, rfl, rfl, rfl⟩
  case round =>
    obtain ⟨i, s, hi, rfl, rfl, HS, rfl⟩ := hrel
    have hs0 : 1 ≤ s ∧ s ≤ 4096 := by rw [HS.out]; exact pow_bnd (by omega)
    by_cases hin : (i : Int) < n
    · have HN := Lib.hid (show 2 * s = ((2 ^ (i + 1) : Nat) : Int) by have h1 := HS.out; rw [Nat.pow_succ]; omega)
      go_wp2_with fail
      go_roundw
      case rel => exact ⟨i + 1, 2 * s, by omega, by go_num, by go_num, HN.out, by first | rfl | trivial⟩
      case measure => simp [intOf]; omega
    · have he : (i : Int) = n := by omega
      have hsz : s = nsz n := by
        rw [HS.out]
        refine pow_size ?_ he
        rcases HC.out with ⟨rfl, _⟩ | ⟨rfl, _⟩ | ⟨rfl, _⟩ <;> (unfold nsz; simp)
      have hA : 2 * (f - k) < s := by
        rw [hsz]
        rcases HC.out with ⟨rfl, _⟩ | ⟨rfl, _⟩ | ⟨rfl, _⟩ <;> (unfold nsz; simp; omega)
      have hmod : Int.tmod n 4 = 0 := by
        rcases HC.out with ⟨rfl, _⟩ | ⟨rfl, _⟩ | ⟨rfl, _⟩ <;> rfl
      have hdv : Int.tdiv s 16 = s / 16 := Int.tdiv_eq_ediv_of_nonneg (by omega)
      have hn12 : n ≤ 12 := hn0.2
      by_cases h4 : n = 4
      · have h4b : (n == 4) = true := by rw [beq_iff_eq]; exact h4
        clear hsz h4 he
        go_wp2_with fail
        go_ret
        exact ⟨by simp, B3.out⟩
      · have h4b : (n == 4) = false := by rw [beq_eq_false_iff_ne]; exact h4
        have hB : s / 16 ≤ 2 * (f - k) := by
          rw [hsz]
          rcases HC.out with ⟨rfl, _⟩ | ⟨rfl, _⟩ | ⟨rfl, _⟩
          · omega
          · unfold nsz; simp; omega
          · unfold nsz; simp; omega
        clear hsz h4 he
        go_wp2_with fail
        go_ret
        exact ⟨by simp, B3.out⟩

set_option maxRecDepth 100000 in
set_option maxHeartbeats 2000000 in
theorem norder_walk (a : Option Addr) (len cap : Nat) (zs : List Int) (w : World) (h : IsRow .u8 w a len cap zs) :
    Calls Try.prog 6 #[.slice a len cap] w fun e w' => e = .returned (.bool true) ∧ Below w.heap.size w w' := by
  have H := Lib.hid h
  clear h
  by_cases hl : 1048576 < len
  · go_enter Try.func6, Try.ntmps6
    go_wp2
    go_ret
    exact ⟨rfl, Below.refl _ _⟩
  go_enter Try.func6, Try.ntmps6
  go_wp2_with fail
  refine (drawNBits_any a len cap zs w H.out).mono ?_
  rintro e w1 ⟨f, k, ⟨⟨hf0, hf9⟩, hk0, hk9⟩, rfl, hb1⟩
  have B1 := Lib.hid hb1
  clear hb1
  go_wp2_with fail
  refine (inbits_any f k w1).mono ?_
  rintro e w2 ⟨rfl, hb2⟩
  have B2 := Lib.hid (B1.out.trans (hb2.mono B1.out.size))
  clear hb2
  go_wp2_with fail
  refine (snbits_any f k w2).mono ?_
  rintro e w3 ⟨rfl, hb3⟩
  have B3 := Lib.hid (B2.out.trans (hb3.mono B2.out.size))
  clear hb3
  obtain ⟨n, hn⟩ : ∃ n, nbits f k = n := ⟨_, rfl⟩
  rw [hn]
  by_cases hz : n = 0
  · have hzb : (n == 0) = true := by rw [beq_iff_eq]; exact hz
    clear hn
    go_wp2_with fail
    go_ret
    exact ⟨by simp, B3.out⟩
  have hzb : (n == 0) = false := by rw [beq_eq_false_iff_ne]; exact hz
  by_cases ha : k < 0
  · clear hn hz
    go_wp2_with fail
    go_ret
    exact ⟨by simp, B3.out⟩
  have q1 : IntKind.i64.wrap (k - 1) = k - 1 := IntWalk.i64_in _ (by omega)
  obtain ⟨m, hm⟩ : ∃ m, nbits f (k - 1) = m := ⟨_, rfl⟩
  have hnm : n ≤ m := by rw [← hn, ← hm]; exact nbits_order (by omega) (by omega)
  have HM := Lib.hid hm
  clear hn hz hm
  go_wp2_with fail
  refine (inbits_any _ _ _).mono ?_
  rw [HM.out]
  rintro e w5 ⟨rfl, hb5⟩
  have B5 := Lib.hid (B3.out.trans (hb5.mono B3.out.size))
  clear hb5
  go_wp2_with fail
  go_ret
  exact ⟨by simp [hnm], B5.out⟩

set_option maxRecDepth 100000 in
set_option maxHeartbeats 2000000 in
theorem ntrunc_walk (a : Option Addr) (len cap : Nat) (zs : List Int) (w : World) (h : IsRow .u8 w a len cap zs) :
    Calls Try.prog 7 #[.slice a len cap] w fun e w' => e = .returned (.bool true) ∧ Below w.heap.size w w' := by
  have H := Lib.hid h
  clear h
  by_cases hl : 1048576 < len
  · go_enter Try.func7, Try.ntmps7
    go_wp2
    go_ret
    exact ⟨rfl, Below.refl _ _⟩
  go_enter Try.func7, Try.ntmps7
  go_wp2_with fail
  refine (drawNTrunc_any a len cap zs w H.out).mono ?_
  rintro e w1 ⟨f, b, ⟨⟨hf0, hf9⟩, hk0, hk9⟩, rfl, hb1⟩
  have B1 := Lib.hid hb1
  clear hb1
  go_wp2_with fail
  refine (intrunc_any f b w1).mono ?_
  rintro e w2 ⟨rfl, hb2⟩
  have B2 := Lib.hid (B1.out.trans (hb2.mono B1.out.size))
  clear hb2
  go_wp2_with fail
  refine (strunc_any f b w2).mono ?_
  rintro e w3 ⟨rfl, hb3⟩
  have B3 := Lib.hid (B2.out.trans (hb3.mono B2.out.size))
  clear hb3
  obtain ⟨v, hv⟩ : ∃ v, ntrunc f b = v := ⟨_, rfl⟩
  rw [hv]
  by_cases hz : v < 0
  · clear hv
    go_wp2_with fail
    go_ret
    exact ⟨by simp, B3.out⟩
  have hfp := ntrunc_parts (f := f) (b := b) (by omega)
  have hlast := ntrunc_last (f := f) (b := b) (by omega)
  rw [hv] at hlast
  obtain ⟨p1, p2, p3, _⟩ := hfp
  have hv9 := ntrunc_bnd f b
  rw [hv] at hv9
  have HL := Lib.hid hlast
  have P3 := Lib.hid p3
  have hb12 : b ≤ 12 := by rcases nsz_cases b with ⟨_, _⟩ | ⟨_, _⟩ | ⟨_, _⟩ | ⟨_, _, _, _⟩ <;> omega
  have q1 : IntKind.i64.wrap (f - v) = f - v := IntWalk.i64_in _ (by omega)
  clear hv hlast p3
  go_wp2_with fail
  go_loopw [7, 8] (fun sv iv wr => ∃ (i : Nat) (s : Int), (i : Int) ≤ b ∧ sv = .int .i64 s ∧ iv = .int .i64 i ∧ Hid (s = ((2 ^ i : Nat) : Int)) ∧ wr = w3) (fun _ iv _ => (b - intOf iv).toNat)
  case atStart => exact ⟨0, 1, by omega, rfl, rfl, rfl, rfl⟩
  case round =>
    obtain ⟨i, s, hi, rfl, rfl, HS, rfl⟩ := hrel
    have hs0 : 1 ≤ s ∧ s ≤ 4096 := by rw [HS.out]; exact pow_bnd (by omega)
    by_cases hin : (i : Int) < b
    · have HN := Lib.hid (show 2 * s = ((2 ^ (i + 1) : Nat) : Int) by have h1 := HS.out; rw [Nat.pow_succ]; omega)
      go_wp2_with fail
      go_roundw
      case rel => exact ⟨i + 1, 2 * s, by omega, by go_num, by go_num, HN.out, by first | rfl | trivial⟩
      case measure => simp [intOf]; omega
    · have he : (i : Int) = b := by omega
      have hsz : s = nsz b := by rw [HS.out]; exact pow_size P3.out he
      have hA : v < s := by rw [hsz]; exact HL.out.1
      have hsn : ¬ s = 0 := by omega
      have hge : v ≤ f := by
        rcases nsz_cases b with ⟨_, e⟩ | ⟨_, e⟩ | ⟨_, e⟩ | ⟨_, _, _, e⟩
        all_goals first | exact absurd e P3.out | (have := HL.out; rw [e] at this; omega)
      have hmod : Int.tmod (f - v) s = 0 := by rw [Int.tmod_eq_emod_of_nonneg (by omega), hsz]; exact HL.out.2
      clear hsz he
      go_wp2_with fail
      go_ret
      exact ⟨by simp, B3.out⟩

end Go.Proofs.Ytppeacpklcdggaa
