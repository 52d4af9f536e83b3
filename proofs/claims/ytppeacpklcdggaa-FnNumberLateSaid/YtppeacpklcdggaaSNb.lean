/- The model's NumberBits, NumberTruncate, NumberExpand. -/
import Derived.Test.YtppeacpklcdggaaNbMath
import Derived.Below
import Derived.IntWalk
namespace Go.Proofs.Ytppeacpklcdggaa
open Go.RowKit
set_option linter.unusedVariables false
set_option linter.unusedSimpArgs false

set_option maxRecDepth 100000 in
set_option maxHeartbeats 400000 in
theorem l6In_any (n a b : Int) (w : World) : Calls Try.prog 27 #[.int .i64 n, .int .i64 a, .int .i64 b] w fun e w' => e = .returned (.bool (decide (a ≤ n ∧ n ≤ b))) ∧ w = w' := by
  by_cases h1 : n < a
  · go_enter Try.func27, Try.ntmps27
    go_wp2
    all_goals
      go_ret
      exact ⟨ret_bool (by first | (simp; done) | (simp; omega)), rfl⟩
  · by_cases h2 : b < n
    all_goals
      go_enter Try.func27, Try.ntmps27
      go_wp2
      all_goals
        go_ret
        exact ⟨ret_bool (by first | (simp; done) | (simp; omega)), rfl⟩

set_option maxRecDepth 100000 in
set_option maxHeartbeats 400000 in
theorem ssize_any (b : Int) (w : World) : Calls Try.prog 28 #[.int .i64 b] w fun e w' => e = .returned (.int .i64 (nsz b)) ∧ w = w' := by
  by_cases h4 : b = 4
  · subst h4
    go_enter Try.func28, Try.ntmps28
    go_wp2
    go_ret
    exact ⟨rfl, rfl⟩
  · have e4 : (b == 4) = false := by rw [beq_eq_false_iff_ne]; exact h4
    by_cases h8 : b = 8
    · subst h8
      go_enter Try.func28, Try.ntmps28
      go_wp2
      go_ret
      exact ⟨rfl, rfl⟩
    · have e8 : (b == 8) = false := by rw [beq_eq_false_iff_ne]; exact h8
      by_cases h12 : b = 12
      · subst h12
        go_enter Try.func28, Try.ntmps28
        go_wp2
        go_ret
        exact ⟨rfl, rfl⟩
      · have e12 : (b == 12) = false := by rw [beq_eq_false_iff_ne]; exact h12
        have H : Hid (nsz b = 0) := Lib.hid (by unfold nsz; rw [if_neg h4, if_neg h8, if_neg h12])
        clear h4 h8 h12
        go_enter Try.func28, Try.ntmps28
        go_wp2
        go_ret
        exact ⟨ret_int H.out.symm, rfl⟩

/-- A number comes back, nothing that was there is turned. -/
def IntPost (w : World) (n : Int) (e : Ending) (w' : World) : Prop := e = .returned (.int .i64 n) ∧ Below w.heap.size w w'

set_option maxRecDepth 100000 in
set_option maxHeartbeats 1000000 in
theorem snbits_any (f a : Int) (w : World) : Calls Try.prog 16 #[.int .i64 f, .int .i64 a] w (IntPost w (nbits f a)) := by
  rcases nbits_cases f a with ⟨hn, hno⟩ | ⟨hk, hc⟩
  · by_cases hf : 0 ≤ f ∧ f ≤ 999
    · have hd : decide (0 ≤ f ∧ f ≤ 999) = true := decide_eq_true hf
      have hd2 : decide (-1 ≤ a ∧ a ≤ f - 1) = false := decide_eq_false fun h => hno ⟨hf.1, hf.2, h.1, h.2⟩
      have hw : IntKind.i64.wrap (f - 1) = f - 1 := IntWalk.i64_in _ (by omega)
      have HD := Lib.hid hd
      have HD2 := Lib.hid hd2
      have HN := Lib.hid hn
      clear hd hd2 hn hno hf
      go_enter Try.func16, Try.ntmps16
      go_wp2_with fail
      refine (l6In_any _ _ _ _).mono ?_
      rw [HD.out]
      rintro e w' ⟨rfl, rfl⟩
      go_wp2_with fail
      refine (l6In_any _ _ _ _).mono ?_
      rw [HD2.out]
      rintro e w' ⟨rfl, rfl⟩
      go_wp2_with fail
      go_ret
      exact ⟨ret_int HN.out.symm, Below.refl _ _⟩
    · have hd : decide (0 ≤ f ∧ f ≤ 999) = false := decide_eq_false hf
      have HD := Lib.hid hd
      have HN := Lib.hid hn
      clear hd hn hno hf
      go_enter Try.func16, Try.ntmps16
      go_wp2_with fail
      refine (l6In_any _ _ _ _).mono ?_
      rw [HD.out]
      rintro e w' ⟨rfl, rfl⟩
      go_wp2_with fail
      go_ret
      exact ⟨ret_int HN.out.symm, Below.refl _ _⟩
  · have hk' : 0 ≤ f ∧ f ≤ 999 ∧ -1 ≤ a ∧ a ≤ f - 1 := hk
    obtain ⟨k1, k2, k3, k4⟩ := hk'
    have HD := Lib.hid (decide_eq_true (show 0 ≤ f ∧ f ≤ 999 from ⟨k1, k2⟩))
    have HD2 := Lib.hid (decide_eq_true (show -1 ≤ a ∧ a ≤ f - 1 from ⟨k3, k4⟩))
    have hw : IntKind.i64.wrap (f - 1) = f - 1 := IntWalk.i64_in _ (by omega)
    have hw2 : IntKind.i64.wrap (f - a) = f - a := IntWalk.i64_in _ (by omega)
    have hw3 : IntKind.i64.wrap (2 * (f - a)) = 2 * (f - a) := IntWalk.i64_in _ (by omega)
    have E4 : Hid (nsz 4 = 16) := Lib.hid rfl
    have E8 : Hid (nsz 8 = 256) := Lib.hid rfl
    have E12 : Hid (nsz 12 = 4096) := Lib.hid rfl
    clear hk
    rcases hc with ⟨hn, hd⟩ | ⟨hn, hc, hd⟩ | ⟨hn, hc, hd⟩
    · have hd1 : ¬ 16 ≤ 2 * (f - a) := by omega
      have HN := Lib.hid hn
      clear hn
      go_enter Try.func16, Try.ntmps16
      go_wp2_with fail
      refine (l6In_any _ _ _ _).mono ?_
      rw [HD.out]
      rintro e w' ⟨rfl, rfl⟩
      go_wp2_with fail
      refine (l6In_any _ _ _ _).mono ?_
      rw [HD2.out]
      rintro e w' ⟨rfl, rfl⟩
      go_wp2_with fail
      refine wp_loop_rounds 3 ?_
      rw [rounds_succ]
      go_wp2_with fail
      refine (ssize_any _ _).mono ?_
      rw [E4.out]
      rintro e w' ⟨rfl, rfl⟩
      go_wp2_with fail
      go_ret
      exact ⟨ret_int HN.out.symm, Below.refl _ _⟩
    · have hd1 : 16 ≤ 2 * (f - a) := by omega
      have hd2 : ¬ 256 ≤ 2 * (f - a) := by omega
      have HN := Lib.hid hn
      clear hn
      go_enter Try.func16, Try.ntmps16
      go_wp2_with fail
      refine (l6In_any _ _ _ _).mono ?_
      rw [HD.out]
      rintro e w' ⟨rfl, rfl⟩
      go_wp2_with fail
      refine (l6In_any _ _ _ _).mono ?_
      rw [HD2.out]
      rintro e w' ⟨rfl, rfl⟩
      go_wp2_with fail
      refine wp_loop_rounds 3 ?_
      rw [rounds_succ]
      go_wp2_with fail
      refine (ssize_any _ _).mono ?_
      rw [E4.out]
      rintro e w' ⟨rfl, rfl⟩
      go_wp2_with fail
      rw [rounds_succ]
      go_wp2_with fail
      refine (ssize_any _ _).mono ?_
      rw [E8.out]
      rintro e w' ⟨rfl, rfl⟩
      go_wp2_with fail
      go_ret
      exact ⟨ret_int HN.out.symm, Below.refl _ _⟩
    · have hd1 : 16 ≤ 2 * (f - a) := by omega
      have hd2 : 256 ≤ 2 * (f - a) := by omega
      have hd3 : ¬ 4096 ≤ 2 * (f - a) := by omega
      have HN := Lib.hid hn
      clear hn
      go_enter Try.func16, Try.ntmps16
      go_wp2_with fail
      refine (l6In_any _ _ _ _).mono ?_
      rw [HD.out]
      rintro e w' ⟨rfl, rfl⟩
      go_wp2_with fail
      refine (l6In_any _ _ _ _).mono ?_
      rw [HD2.out]
      rintro e w' ⟨rfl, rfl⟩
      go_wp2_with fail
      refine wp_loop_rounds 3 ?_
      rw [rounds_succ]
      go_wp2_with fail
      refine (ssize_any _ _).mono ?_
      rw [E4.out]
      rintro e w' ⟨rfl, rfl⟩
      go_wp2_with fail
      rw [rounds_succ]
      go_wp2_with fail
      refine (ssize_any _ _).mono ?_
      rw [E8.out]
      rintro e w' ⟨rfl, rfl⟩
      go_wp2_with fail
      rw [rounds_succ]
      go_wp2_with fail
      refine (ssize_any _ _).mono ?_
      rw [E12.out]
      rintro e w' ⟨rfl, rfl⟩
      go_wp2_with fail
      go_ret
      exact ⟨ret_int HN.out.symm, Below.refl _ _⟩

set_option maxRecDepth 100000 in
set_option maxHeartbeats 1000000 in
theorem strunc_any (f b : Int) (w : World) : Calls Try.prog 20 #[.int .i64 f, .int .i64 b] w (IntPost w (ntrunc f b)) := by
  by_cases hf : 0 ≤ f ∧ f ≤ 999
  · have HD := Lib.hid (decide_eq_true hf)
    by_cases hb : nsz b = 0
    · have HN := Lib.hid (show ntrunc f b = -1 by unfold ntrunc; rw [if_neg (fun h => h.2.2 hb)])
      have HB := Lib.hid hb
      clear hb hf
      go_enter Try.func20, Try.ntmps20
      go_wp2_with fail
      refine (l6In_any _ _ _ _).mono ?_
      rw [HD.out]
      rintro e w' ⟨rfl, rfl⟩
      go_wp2_with fail
      refine (ssize_any _ _).mono ?_
      rw [HB.out]
      rintro e w' ⟨rfl, rfl⟩
      go_wp2_with fail
      go_ret
      exact ⟨ret_int HN.out.symm, Below.refl _ _⟩
    · have HN := ntrunc_ok hf.1 hf.2 hb
      have hs : 0 < nsz b := by rcases nsz_cases b with ⟨_, e⟩ | ⟨_, e⟩ | ⟨_, e⟩ | ⟨_, _, _, e⟩ <;> omega
      have hbb : (nsz b == 0) = false := by rw [beq_eq_false_iff_ne]; exact hb
      have hm : Int.tmod f (nsz b) = f % nsz b := Int.tmod_eq_emod_of_nonneg hf.1
      obtain ⟨hf0, hf1⟩ := hf
      have h0 : ¬ nsz b = 0 := hb
      have hs9 : nsz b ≤ 4096 := by rcases nsz_cases b with ⟨_, e⟩ | ⟨_, e⟩ | ⟨_, e⟩ | ⟨_, _, _, e⟩ <;> omega
      clear hb
      obtain ⟨s, hse⟩ : ∃ s, nsz b = s := ⟨_, rfl⟩
      rw [hse] at HN hs hbb hm h0 hs9
      have HE := Lib.hid hse
      have hmod := ntrunc_bnd f b
      rw [HN] at hmod
      have hmod0 := Int.emod_nonneg f h0
      have HN := Lib.hid HN
      clear hse
      go_enter Try.func20, Try.ntmps20
      go_wp2_with fail
      refine (l6In_any _ _ _ _).mono ?_
      rw [HD.out]
      rintro e w' ⟨rfl, rfl⟩
      go_wp2_with fail
      refine (ssize_any _ _).mono ?_
      rw [HE.out]
      rintro e w' ⟨rfl, rfl⟩
      go_wp2_with fail
      refine (ssize_any _ _).mono ?_
      rw [HE.out]
      rintro e w' ⟨rfl, rfl⟩
      go_wp2_with fail
      go_ret
      exact ⟨ret_int (by rw [HN.out]), Below.refl _ _⟩
  · have HD := Lib.hid (decide_eq_false hf)
    have HN := Lib.hid (show ntrunc f b = -1 by unfold ntrunc; rw [if_neg (fun h => hf ⟨h.1, h.2.1⟩)])
    clear hf
    go_enter Try.func20, Try.ntmps20
    go_wp2_with fail
    refine (l6In_any _ _ _ _).mono ?_
    rw [HD.out]
    rintro e w' ⟨rfl, rfl⟩
    go_wp2_with fail
    go_ret
    exact ⟨ret_int HN.out.symm, Below.refl _ _⟩


/-- The model's l3Expand, by the size and its half. -/
def nexpS (g v s : Int) : Int :=
  if g + 1 - (g + 1) % s + v ≤ g + 1 - s / 2 then g + 1 - (g + 1) % s + v + s
  else if g + 1 + s / 2 < g + 1 - (g + 1) % s + v ∧ s ≤ g + 1 - (g + 1) % s + v then g + 1 - (g + 1) % s + v - s
  else g + 1 - (g + 1) % s + v
theorem nexp_ok {g v b : Int} (h : -1 ≤ g ∧ g ≤ 999 ∧ 0 ≤ v ∧ v ≤ nsz b - 1) : nexp g v b = nexpS g v (nsz b) := by
  unfold nexp nexpS; rw [if_pos h]

set_option maxRecDepth 100000 in
set_option maxHeartbeats 2000000 in
theorem sexp_any (g v b : Int) (w : World) (h : -1 ≤ g ∧ g ≤ 999 ∧ 0 ≤ v ∧ v ≤ nsz b - 1) : Calls Try.prog 30 #[.int .i64 g, .int .i64 v, .int .i64 b] w (IntPost w (nexpS g v (nsz b))) := by
  obtain ⟨g0, g9, v0, v9⟩ := h
  have hs : nsz b = 16 ∨ nsz b = 256 ∨ nsz b = 4096 := by rcases nsz_cases b with ⟨_, e⟩ | ⟨_, e⟩ | ⟨_, e⟩ | ⟨_, _, _, e⟩ <;> omega
  obtain ⟨s, hse⟩ : ∃ s, nsz b = s := ⟨_, rfl⟩
  rw [hse] at hs v9 ⊢
  have HE := Lib.hid hse
  clear hse
  have h0 : ¬ s = 0 := by omega
  have q1 : Int.tmod (g + 1) s = (g + 1) % s := Int.tmod_eq_emod_of_nonneg (by omega)
  have q2 : Int.tdiv s 2 = s / 2 := Int.tdiv_eq_ediv_of_nonneg (by omega)
  have r0 : 0 ≤ (g + 1) % s ∧ (g + 1) % s < s ∧ (g + 1) % s ≤ g + 1 := by
    refine ⟨Int.emod_nonneg _ h0, Int.emod_lt_of_pos _ (by omega), ?_⟩
    rcases hs with rfl | rfl | rfl <;> omega
  have d0 : 8 ≤ s / 2 ∧ s / 2 ≤ 2048 := by rcases hs with rfl | rfl | rfl <;> omega
  have s0 : 16 ≤ s ∧ s ≤ 4096 := by omega
  obtain ⟨n, hn⟩ : ∃ n, g + 1 - (g + 1) % s + v = n := ⟨_, rfl⟩
  have n0 : 0 ≤ n ∧ n ≤ 6000 := by omega
  have w1 : IntKind.i64.wrap (g + 1) = g + 1 := IntWalk.i64_in _ (by omega)
  have w2 : IntKind.i64.wrap ((g + 1) % s) = (g + 1) % s := IntWalk.i64_in _ (by omega)
  have w3 : IntKind.i64.wrap (g + 1 - (g + 1) % s) = g + 1 - (g + 1) % s := IntWalk.i64_in _ (by omega)
  have w4 : IntKind.i64.wrap (g + 1 - (g + 1) % s + v) = n := by rw [hn]; exact IntWalk.i64_in _ (by omega)
  have w5 : IntKind.i64.wrap (s / 2) = s / 2 := IntWalk.i64_in _ (by omega)
  have w6 : IntKind.i64.wrap (g + 1 - s / 2) = g + 1 - s / 2 := IntWalk.i64_in _ (by omega)
  have w7 : IntKind.i64.wrap (g + 1 + s / 2) = g + 1 + s / 2 := IntWalk.i64_in _ (by omega)
  have w8 : IntKind.i64.wrap (n + s) = n + s := IntWalk.i64_in _ (by omega)
  have w9 : IntKind.i64.wrap (n - s) = n - s := IntWalk.i64_in _ (by omega)
  by_cases c1 : n ≤ g + 1 - s / 2
  · have HR := Lib.hid (show nexpS g v s = n + s by unfold nexpS; rw [hn, if_pos c1])
    have cn : ¬ g + 1 - s / 2 < n := by omega
    clear hn r0 d0 n0 hs
    go_enter Try.func30, Try.ntmps30
    go_wp2_with fail
    refine (ssize_any _ _).mono ?_
    rw [HE.out]
    rintro e w' ⟨rfl, rfl⟩
    go_wp2_with fail
    go_ret
    exact ⟨ret_int HR.out.symm, Below.refl _ _⟩
  · by_cases c2 : g + 1 + s / 2 < n
    · by_cases c3 : s ≤ n
      · have HR := Lib.hid (show nexpS g v s = n - s by unfold nexpS; rw [hn, if_neg c1, if_pos ⟨c2, c3⟩])
        clear hn r0 d0 n0 hs
        go_enter Try.func30, Try.ntmps30
        go_wp2_with fail
        refine (ssize_any _ _).mono ?_
        rw [HE.out]
        rintro e w' ⟨rfl, rfl⟩
        go_wp2_with fail
        go_ret
        exact ⟨ret_int HR.out.symm, Below.refl _ _⟩
      · have HR := Lib.hid (show nexpS g v s = n by unfold nexpS; rw [hn, if_neg c1, if_neg (by omega)])
        clear hn r0 d0 n0 hs
        go_enter Try.func30, Try.ntmps30
        go_wp2_with fail
        refine (ssize_any _ _).mono ?_
        rw [HE.out]
        rintro e w' ⟨rfl, rfl⟩
        go_wp2_with fail
        go_ret
        exact ⟨ret_int HR.out.symm, Below.refl _ _⟩
    · have HR := Lib.hid (show nexpS g v s = n by unfold nexpS; rw [hn, if_neg c1, if_neg (by omega)])
      clear hn r0 d0 n0 hs
      go_enter Try.func30, Try.ntmps30
      go_wp2_with fail
      refine (ssize_any _ _).mono ?_
      rw [HE.out]
      rintro e w' ⟨rfl, rfl⟩
      go_wp2_with fail
      go_ret
      exact ⟨ret_int HR.out.symm, Below.refl _ _⟩


set_option maxRecDepth 100000 in
set_option maxHeartbeats 2000000 in
theorem snexp_any (g v b : Int) (w : World) : Calls Try.prog 22 #[.int .i64 g, .int .i64 v, .int .i64 b] w (IntPost w (nexp g v b)) := by
  have w1 : IntKind.i64.wrap (nsz b - 1) = nsz b - 1 := IntWalk.i64_in _ (by rcases nsz_cases b with ⟨_, e⟩ | ⟨_, e⟩ | ⟨_, e⟩ | ⟨_, _, _, e⟩ <;> omega)
  by_cases hg : -1 ≤ g ∧ g ≤ 999
  · have HG := Lib.hid (decide_eq_true hg)
    by_cases hv : 0 ≤ v ∧ v ≤ nsz b - 1
    · have HV := Lib.hid (decide_eq_true hv)
      have HX := Lib.hid (sexp_any g v b w ⟨hg.1, hg.2, hv.1, hv.2⟩)
      have HR := Lib.hid (nexp_ok ⟨hg.1, hg.2, hv.1, hv.2⟩)
      clear hg hv
      go_enter Try.func22, Try.ntmps22
      go_wp2_with fail
      refine (l6In_any _ _ _ _).mono ?_
      rw [HG.out]
      rintro e w' ⟨rfl, rfl⟩
      go_wp2_with fail
      refine (ssize_any _ _).mono ?_
      rintro e w' ⟨rfl, rfl⟩
      go_wp2_with fail
      refine (l6In_any _ _ _ _).mono ?_
      rw [HV.out]
      rintro e w' ⟨rfl, rfl⟩
      go_wp2_with fail
      refine HX.out.mono ?_
      rintro e w1 ⟨rfl, hb⟩
      have HB := Lib.hid hb
      clear hb
      go_wp2_with fail
      go_ret
      exact ⟨ret_int HR.out.symm, HB.out⟩
    · have HV := Lib.hid (decide_eq_false hv)
      have HR := Lib.hid (show nexp g v b = -1 by unfold nexp; rw [if_neg fun h => hv ⟨h.2.2.1, h.2.2.2⟩])
      clear hg hv
      go_enter Try.func22, Try.ntmps22
      go_wp2_with fail
      refine (l6In_any _ _ _ _).mono ?_
      rw [HG.out]
      rintro e w' ⟨rfl, rfl⟩
      go_wp2_with fail
      refine (ssize_any _ _).mono ?_
      rintro e w' ⟨rfl, rfl⟩
      go_wp2_with fail
      refine (l6In_any _ _ _ _).mono ?_
      rw [HV.out]
      rintro e w' ⟨rfl, rfl⟩
      go_wp2_with fail
      go_ret
      exact ⟨ret_int HR.out.symm, Below.refl _ _⟩
  · have HG := Lib.hid (decide_eq_false hg)
    have HR := Lib.hid (show nexp g v b = -1 by unfold nexp; rw [if_neg fun h => hg ⟨h.1, h.2.1⟩])
    clear hg
    go_enter Try.func22, Try.ntmps22
    go_wp2_with fail
    refine (l6In_any _ _ _ _).mono ?_
    rw [HG.out]
    rintro e w' ⟨rfl, rfl⟩
    go_wp2_with fail
    go_ret
    exact ⟨ret_int HR.out.symm, Below.refl _ _⟩

end Go.Proofs.Ytppeacpklcdggaa
