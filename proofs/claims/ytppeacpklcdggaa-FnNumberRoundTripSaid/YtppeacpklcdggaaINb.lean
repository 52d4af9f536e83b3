/- The program's NumberBits, NumberTruncate, NumberExpand. -/
import Derived.Test.YtppeacpklcdggaaSNb
namespace Go.Proofs.Ytppeacpklcdggaa
open Go.RowKit
set_option linter.unusedVariables false
set_option linter.unusedSimpArgs false

/-- 'x & (2^k - 1)' is 'x % 2^k', of whatever sign. -/
theorem land_mask (k : Nat) (hk : k < 63) (x : Int) : Go.bits .and .i64 x ((2 ^ k - 1 : Nat) : Int) = x % ((2 ^ k : Nat) : Int) := by
  have hp : 2 ^ k < 2 ^ 63 := Nat.pow_lt_pow_right (by omega) hk
  have h63 : (2 : Nat) ^ 63 = 9223372036854775808 := by decide
  have hpos : 0 < 2 ^ k := Nat.pos_of_ne_zero (by simp)
  have h2 : (BitVec.ofInt 64 ((2 ^ k - 1 : Nat) : Int)).toNat = 2 ^ k - 1 := by
    rw [BitVec.ofInt_natCast, BitVec.toNat_ofNat]; exact Nat.mod_eq_of_lt (by omega)
  have h1 : (BitVec.ofInt 64 x).toNat = (x % 18446744073709551616).toNat := by
    rw [BitVec.toNat_ofInt]; rfl
  show IntKind.i64.wrap ((BitVec.ofInt 64 x &&& BitVec.ofInt 64 ((2 ^ k - 1 : Nat) : Int)).toNat : Int) = _
  rw [BitVec.toNat_and, h1, h2, Nat.and_two_pow_sub_one_eq_mod]
  have hlt := Nat.mod_lt (x % 18446744073709551616).toNat hpos
  rw [IntWalk.i64_in _ (by omega), Int.natCast_emod, Int.toNat_of_nonneg (by omega)]
  have hd : ((2 ^ k : Nat) : Int) ∣ 18446744073709551616 := by
    have : (2 ^ k : Nat) ∣ 2 ^ 64 := Nat.pow_dvd_pow 2 (by omega)
    have h64 : (2 : Nat) ^ 64 = 18446744073709551616 := by decide
    rw [h64] at this
    exact Int.natCast_dvd_natCast.mpr this
  exact Int.emod_emod_of_dvd x hd

set_option maxRecDepth 100000 in
set_option maxHeartbeats 400000 in
theorem itv_any (b : Int) (w : World) : Calls Try.prog 26 #[.int .i64 b] w fun e w' => e = .returned (.int .i64 (nsz b)) ∧ w = w' := by
  by_cases h4 : b = 4
  · subst h4
    go_enter Try.func26, Try.ntmps26
    go_wp2
    go_ret
    exact ⟨rfl, rfl⟩
  · have e4 : (b == 4) = false := by rw [beq_eq_false_iff_ne]; exact h4
    by_cases h8 : b = 8
    · subst h8
      go_enter Try.func26, Try.ntmps26
      go_wp2
      go_ret
      exact ⟨rfl, rfl⟩
    · have e8 : (b == 8) = false := by rw [beq_eq_false_iff_ne]; exact h8
      by_cases h12 : b = 12
      · subst h12
        go_enter Try.func26, Try.ntmps26
        go_wp2
        go_ret
        exact ⟨rfl, rfl⟩
      · have e12 : (b == 12) = false := by rw [beq_eq_false_iff_ne]; exact h12
        have H : Hid (nsz b = 0) := Lib.hid (by unfold nsz; rw [if_neg h4, if_neg h8, if_neg h12])
        clear h4 h8 h12
        go_enter Try.func26, Try.ntmps26
        go_wp2
        go_ret
        exact ⟨ret_int H.out.symm, rfl⟩

set_option maxRecDepth 100000 in
set_option maxHeartbeats 1000000 in
theorem intrunc_any (f b : Int) (w : World) : Calls Try.prog 18 #[.int .i64 f, .int .i64 b] w (IntPost w (ntrunc f b)) := by
  by_cases hf : 0 ≤ f ∧ f ≤ 999
  · obtain ⟨hf0, hf1⟩ := hf
    by_cases hb : nsz b = 0
    · have HN := Lib.hid (show ntrunc f b = -1 by unfold ntrunc; rw [if_neg (fun h => h.2.2 hb)])
      have HB := Lib.hid hb
      clear hb
      have n0 : ¬ f < 0 := by omega
      have n9 : ¬ 999 < f := by omega
      go_enter Try.func18, Try.ntmps18
      go_wp2_with fail
      refine (itv_any _ _).mono ?_
      rw [HB.out]
      rintro e w' ⟨rfl, rfl⟩
      go_wp2_with fail
      go_ret
      exact ⟨ret_int HN.out.symm, Below.refl _ _⟩
    · have HN := ntrunc_ok hf0 hf1 hb
      have hs : 0 < nsz b := by rcases nsz_cases b with ⟨_, e⟩ | ⟨_, e⟩ | ⟨_, e⟩ | ⟨_, _, _, e⟩ <;> omega
      have hbb : (nsz b == 0) = false := by rw [beq_eq_false_iff_ne]; exact hb
      have hm : Int.tmod f (nsz b) = f % nsz b := Int.tmod_eq_emod_of_nonneg hf0
      have h0 : ¬ nsz b = 0 := hb
      have hs9 : nsz b ≤ 4096 := by rcases nsz_cases b with ⟨_, e⟩ | ⟨_, e⟩ | ⟨_, e⟩ | ⟨_, _, _, e⟩ <;> omega
      clear hb
      obtain ⟨s, hse⟩ : ∃ s, nsz b = s := ⟨_, rfl⟩
      rw [hse] at HN hs hbb hm h0 hs9
      have HE := Lib.hid hse
      have hmod := ntrunc_bnd f b
      rw [HN] at hmod
      have hmod0 := Int.emod_nonneg f h0
      have HN := Lib.hid HN
      clear hse
      have n0 : ¬ f < 0 := by omega
      have n9 : ¬ 999 < f := by omega
      go_enter Try.func18, Try.ntmps18
      go_wp2_with fail
      refine (itv_any _ _).mono ?_
      rw [HE.out]
      rintro e w' ⟨rfl, rfl⟩
      go_wp2_with fail
      go_ret
      exact ⟨ret_int (by rw [HN.out]), Below.refl _ _⟩
  · have HN := Lib.hid (show ntrunc f b = -1 by unfold ntrunc; rw [if_neg (fun h => hf ⟨h.1, h.2.1⟩)])
    by_cases n0 : f < 0
    all_goals
      have n9 : ¬ f < 0 → 999 < f := by omega
      try replace n9 := n9 n0
      clear hf
      go_enter Try.func18, Try.ntmps18
      go_wp2_with fail
      refine (itv_any _ _).mono ?_
      rintro e w' ⟨rfl, rfl⟩
      go_wp2_with fail
      go_ret
      exact ⟨ret_int HN.out.symm, Below.refl _ _⟩

set_option maxRecDepth 100000 in
set_option maxHeartbeats 1000000 in
theorem inbits_any (f a : Int) (w : World) : Calls Try.prog 15 #[.int .i64 f, .int .i64 a] w (IntPost w (nbits f a)) := by
  rcases nbits_cases f a with ⟨hn, hno⟩ | ⟨hk, hc⟩
  · have HN := Lib.hid hn
    have hno' : a < -1 ∨ f ≤ a ∨ 999 < f := by unfold nbOk at hno; omega
    clear hn hno
    by_cases h1 : a < -1
    · clear hno'
      go_enter Try.func15, Try.ntmps15
      go_wp2_with fail
      go_ret
      exact ⟨ret_int HN.out.symm, Below.refl _ _⟩
    · by_cases h2 : f ≤ a
      · clear hno'
        go_enter Try.func15, Try.ntmps15
        go_wp2_with fail
        go_ret
        exact ⟨ret_int HN.out.symm, Below.refl _ _⟩
      · have h3 : 999 < f := by omega
        clear hno'
        go_enter Try.func15, Try.ntmps15
        go_wp2_with fail
        go_ret
        exact ⟨ret_int HN.out.symm, Below.refl _ _⟩
  · have hk' : 0 ≤ f ∧ f ≤ 999 ∧ -1 ≤ a ∧ a ≤ f - 1 := hk
    obtain ⟨k1, k2, k3, k4⟩ := hk'
    have n1 : ¬ a < -1 := by omega
    have n2 : ¬ f ≤ a := by omega
    have n3 : ¬ 999 < f := by omega
    have hw2 : IntKind.i64.wrap (f - a) = f - a := IntWalk.i64_in _ (by omega)
    have hw3 : IntKind.i64.wrap (2 * (f - a)) = 2 * (f - a) := IntWalk.i64_in _ (by omega)
    have E4 : Hid (nsz 4 = 16) := Lib.hid rfl
    have E8 : Hid (nsz 8 = 256) := Lib.hid rfl
    clear hk
    rcases hc with ⟨hn, hd⟩ | ⟨hn, hc, hd⟩ | ⟨hn, hc, hd⟩
    · have HN := Lib.hid hn
      clear hn
      go_enter Try.func15, Try.ntmps15
      go_wp2_with fail
      refine wp_loop_rounds 3 ?_
      rw [rounds_succ]
      go_wp2_with fail
      refine (itv_any _ _).mono ?_
      rw [E4.out]
      rintro e w' ⟨rfl, rfl⟩
      go_wp2_with fail
      go_ret
      refine ⟨ret_int HN.out.symm, ?_⟩
      exact (Below.refl _ _).alloc (Nat.le_refl _) _
    · have hd1 : ¬ 2 * (f - a) < 16 := by omega
      have HN := Lib.hid hn
      clear hn
      go_enter Try.func15, Try.ntmps15
      go_wp2_with fail
      refine wp_loop_rounds 3 ?_
      rw [rounds_succ]
      go_wp2_with fail
      refine (itv_any _ _).mono ?_
      rw [E4.out]
      rintro e w' ⟨rfl, rfl⟩
      go_wp2_with fail
      rw [rounds_succ]
      go_wp2_with fail
      refine (itv_any _ _).mono ?_
      rw [E8.out]
      rintro e w' ⟨rfl, rfl⟩
      go_wp2_with fail
      go_ret
      refine ⟨ret_int HN.out.symm, ?_⟩
      exact (Below.refl _ _).alloc (Nat.le_refl _) _
    · have hd1 : ¬ 2 * (f - a) < 16 := by omega
      have hd2 : ¬ 2 * (f - a) < 256 := by omega
      have HN := Lib.hid hn
      clear hn
      go_enter Try.func15, Try.ntmps15
      go_wp2_with fail
      refine wp_loop_rounds 3 ?_
      rw [rounds_succ]
      go_wp2_with fail
      refine (itv_any _ _).mono ?_
      rw [E4.out]
      rintro e w' ⟨rfl, rfl⟩
      go_wp2_with fail
      rw [rounds_succ]
      go_wp2_with fail
      refine (itv_any _ _).mono ?_
      rw [E8.out]
      rintro e w' ⟨rfl, rfl⟩
      go_wp2_with fail
      rw [rounds_succ]
      go_wp2_with fail
      go_ret
      refine ⟨ret_int HN.out.symm, ?_⟩
      exact (Below.refl _ _).alloc (Nat.le_refl _) _

/-- What the program counts from the lowest number on is what the model finds. -/
theorem nexp_low (g v s : Int) (hg : -1 ≤ g) (hv : 0 ≤ v) (hv2 : v < s) (hs : s = 16 ∨ s = 256 ∨ s = 4096) :
    nexpS g v s = (if g + 1 - s / 2 + 1 + (v - (g + 1 - s / 2 + 1)) % s < 0 then v else g + 1 - s / 2 + 1 + (v - (g + 1 - s / 2 + 1)) % s) := by
  unfold nexpS
  rcases hs with rfl | rfl | rfl
  · repeat' split
    all_goals omega
  · repeat' split
    all_goals omega
  · repeat' split
    all_goals omega

theorem iexp_at (k : Nat) (g v s m h : Int) (w : World) (hk : k < 63) (hs : s = ((2 ^ k : Nat) : Int)) (hm : m = ((2 ^ k - 1 : Nat) : Int)) (hh : Int.tdiv s 2 = h) (hh2 : s / 2 = h) (hs3 : s = 16 ∨ s = 256 ∨ s = 4096) (hsm : s - 1 = m) (g0 : -1 ≤ g) (g9 : g ≤ 999) :
    Calls Try.prog 31 #[.agg #[.int .i64 g, .int .i64 s], .int .i64 v] w (IntPost w (if 0 ≤ v ∧ v < s then nexpS g v s else -1)) := by
  by_cases hv : 0 ≤ v ∧ v < s
  · rw [if_pos hv, nexp_low g v s g0 hv.1 hv.2 hs3, hh2]
    obtain ⟨v0, v9⟩ := hv
    obtain ⟨lo, hlo⟩ : ∃ lo, g + 1 - h + 1 = lo := ⟨_, rfl⟩
    rw [hlo]
    have hand : Go.bits .and .i64 (v - lo) m = (v - lo) % s := by rw [hm, hs]; exact land_mask k hk _
    have hb : 0 ≤ (v - lo) % s ∧ (v - lo) % s < s := ⟨Int.emod_nonneg _ (by omega), Int.emod_lt_of_pos _ (by omega)⟩
    obtain ⟨r, hr⟩ : ∃ r, (v - lo) % s = r := ⟨_, rfl⟩
    rw [hr] at hand hb ⊢
    have c1 : ¬ v < 0 := by omega
    have c2 : ¬ s ≤ v := by omega
    have hh3 : 8 ≤ h ∧ h ≤ 2048 := by omega
    have s3 : 16 ≤ s ∧ s ≤ 4096 := by omega
    have w1 : IntKind.i64.wrap (g + 1) = g + 1 := IntWalk.i64_in _ (by omega)
    have w2 : IntKind.i64.wrap h = h := IntWalk.i64_in _ (by omega)
    have w3 : IntKind.i64.wrap (g + 1 - h) = g + 1 - h := IntWalk.i64_in _ (by omega)
    have w4 : IntKind.i64.wrap (g + 1 - h + 1) = lo := by rw [hlo]; exact IntWalk.i64_in _ (by omega)
    have w5 : IntKind.i64.wrap (v - lo) = v - lo := IntWalk.i64_in _ (by omega)
    have w6 : IntKind.i64.wrap (s - 1) = m := by rw [hsm]; exact IntWalk.i64_in _ (by omega)
    have w7 : IntKind.i64.wrap (lo + r) = lo + r := IntWalk.i64_in _ (by omega)
    clear hr hb hlo hh2 hs3 hs hm hh3 s3 hsm
    by_cases c3 : lo + r < 0
    · rw [if_pos c3]
      go_enter Try.func31, Try.ntmps31
      go_wp2_with fail
      go_ret
      exact ⟨rfl, (Below.refl _ _).alloc (Nat.le_refl _) _⟩
    · rw [if_neg c3]
      go_enter Try.func31, Try.ntmps31
      go_wp2_with fail
      go_ret
      exact ⟨rfl, (Below.refl _ _).alloc (Nat.le_refl _) _⟩
  · rw [if_neg hv]
    clear hs hm hh hh2 hs3 hsm
    by_cases c1 : v < 0
    · clear hv
      go_enter Try.func31, Try.ntmps31
      go_wp2_with fail
      go_ret
      exact ⟨rfl, (Below.refl _ _).alloc (Nat.le_refl _) _⟩
    · have c2 : s ≤ v := by omega
      clear hv
      go_enter Try.func31, Try.ntmps31
      go_wp2_with fail
      go_ret
      exact ⟨rfl, (Below.refl _ _).alloc (Nat.le_refl _) _⟩

theorem iexp_any (g v s : Int) (w : World) (hs3 : s = 16 ∨ s = 256 ∨ s = 4096) (g0 : -1 ≤ g) (g9 : g ≤ 999) :
    Calls Try.prog 31 #[.agg #[.int .i64 g, .int .i64 s], .int .i64 v] w (IntPost w (if 0 ≤ v ∧ v < s then nexpS g v s else -1)) := by
  rcases hs3 with rfl | rfl | rfl
  · exact iexp_at 4 g v 16 15 8 w (by decide) (by decide) (by decide) (by decide) (by decide) (by decide) (by decide) g0 g9
  · exact iexp_at 8 g v 256 255 128 w (by decide) (by decide) (by decide) (by decide) (by decide) (by decide) (by decide) g0 g9
  · exact iexp_at 12 g v 4096 4095 2048 w (by decide) (by decide) (by decide) (by decide) (by decide) (by decide) (by decide) g0 g9

set_option maxRecDepth 100000 in
set_option maxHeartbeats 400000 in
theorem inex_ok (g b : Int) (w : World) (hg : -1 ≤ g ∧ g ≤ 999) (hb : ¬ nsz b = 0) : Calls Try.prog 29 #[.int .i64 g, .int .i64 b] w fun e w' => e = .returned (.tuple #[.func (.func 31) #[.agg #[.int .i64 g, .int .i64 (nsz b)]] #[], .bool true]) ∧ w = w' := by
  obtain ⟨s, hse⟩ : ∃ s, nsz b = s := ⟨_, rfl⟩
  rw [hse] at hb ⊢
  obtain ⟨g0, g9⟩ := hg
  have c1 : ¬ g < -1 := by omega
  have c2 : ¬ 999 < g := by omega
  have hbb : (s == 0) = false := by rw [beq_eq_false_iff_ne]; exact hb
  go_enter Try.func29, Try.ntmps29
  go_wp2_with fail
  refine (itv_any _ _).mono ?_
  rw [hse]
  rintro e w' ⟨rfl, rfl⟩
  go_wp2_with fail
  go_ret2
  exact ⟨rfl, rfl⟩

set_option maxRecDepth 100000 in
set_option maxHeartbeats 400000 in
theorem inex_no (g b : Int) (w : World) (h : ¬ (-1 ≤ g ∧ g ≤ 999 ∧ ¬ nsz b = 0)) : Calls Try.prog 29 #[.int .i64 g, .int .i64 b] w fun e w' => e = .returned (.tuple #[.nilFunc, .bool false]) ∧ w = w' := by
  obtain ⟨s, hse⟩ : ∃ s, nsz b = s := ⟨_, rfl⟩
  rw [hse] at h
  by_cases c1 : g < -1
  · clear h
    go_enter Try.func29, Try.ntmps29
    go_wp2_with fail
    refine (itv_any _ _).mono ?_
    rw [hse]
    rintro e w' ⟨rfl, rfl⟩
    go_wp2_with fail
    go_ret2
    exact ⟨rfl, rfl⟩
  · by_cases c2 : 999 < g
    · clear h
      go_enter Try.func29, Try.ntmps29
      go_wp2_with fail
      refine (itv_any _ _).mono ?_
      rw [hse]
      rintro e w' ⟨rfl, rfl⟩
      go_wp2_with fail
      go_ret2
      exact ⟨rfl, rfl⟩
    · have hs0 : s = 0 := by omega
      have hbb : (s == 0) = true := by rw [beq_iff_eq]; exact hs0
      clear h hs0
      go_enter Try.func29, Try.ntmps29
      go_wp2_with fail
      refine (itv_any _ _).mono ?_
      rw [hse]
      rintro e w' ⟨rfl, rfl⟩
      go_wp2_with fail
      go_ret2
      exact ⟨rfl, rfl⟩

set_option maxRecDepth 100000 in
set_option maxHeartbeats 400000 in
theorem inexp_any (g v b : Int) (w : World) : Calls Try.prog 17 #[.int .i64 g, .int .i64 v, .int .i64 b] w (IntPost w (nexp g v b)) := by
  by_cases h : -1 ≤ g ∧ g ≤ 999 ∧ ¬ nsz b = 0
  · have HX := Lib.hid (inex_ok g b w ⟨h.1, h.2.1⟩ h.2.2)
    have hs3 : nsz b = 16 ∨ nsz b = 256 ∨ nsz b = 4096 := by rcases nsz_cases b with ⟨_, e⟩ | ⟨_, e⟩ | ⟨_, e⟩ | ⟨_, _, _, e⟩ <;> omega
    have HY := Lib.hid (fun W => iexp_any g v (nsz b) W hs3 h.1 h.2.1)
    have HR : Hid ((if 0 ≤ v ∧ v < nsz b then nexpS g v (nsz b) else -1) = nexp g v b) := Lib.hid (by
      by_cases hv : 0 ≤ v ∧ v < nsz b
      · rw [if_pos hv, nexp_ok ⟨h.1, h.2.1, hv.1, by omega⟩]
      · rw [if_neg hv]; unfold nexp; rw [if_neg (by omega)])
    clear h hs3
    go_enter Try.func17, Try.ntmps17
    go_wp2_with fail
    refine HX.out.mono ?_
    rintro e w' ⟨rfl, rfl⟩
    go_wp2_with fail
    refine (HY.out _).mono ?_
    rw [HR.out]
    rintro e w1 ⟨rfl, hb⟩
    have HB := Lib.hid hb
    clear hb
    go_wp2_with fail
    go_ret
    exact ⟨rfl, HB.out⟩
  · have HX := Lib.hid (inex_no g b w h)
    have HR : Hid (nexp g v b = -1) := Lib.hid (by
      unfold nexp; rw [if_neg]
      rintro ⟨h1, h2, h3, h4⟩
      exact h ⟨h1, h2, by omega⟩)
    clear h
    go_enter Try.func17, Try.ntmps17
    go_wp2_with fail
    refine HX.out.mono ?_
    rintro e w' ⟨rfl, rfl⟩
    go_wp2_with fail
    go_ret
    exact ⟨ret_int HR.out.symm, Below.refl _ _⟩

end Go.Proofs.Ytppeacpklcdggaa
