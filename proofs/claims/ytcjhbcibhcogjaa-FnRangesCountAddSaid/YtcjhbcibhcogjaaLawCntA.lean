/- The law RangesCountAdd: the walk. -/
import Derived.Test.YtcjhbcibhcogjaaIAdd
import Derived.Test.YtcjhbcibhcogjaaIHas
import Derived.Test.YtcjhbcibhcogjaaICnt
import Derived.Test.YtcjhbcibhcogjaaRgLaw
import Derived.Test.YtcjhbcibhcogjaaCntMath
import Derived.Test.YtcjhbcibhcogjaaDrCount
namespace Go.Proofs.Ytcjhbcibhcogjaa
open Go.RowKit
set_option linter.unusedVariables false
set_option linter.unusedSimpArgs false

theorem cntadd_parts {l : List (Int × Int)} {n : Int} (hv : rvalid l = true) (h0 : 0 ≤ n) (h1 : n ≤ 999) :
    (raddOk l n n = false → l.length = 16) ∧ (raddOk l n n = true → rcount (radd l n n) = rcount l + (if rhas l n then 0 else 1) ∧ 0 ≤ rcount l ∧ rcount l ≤ 1000) := by
  obtain ⟨hf, hl⟩ := rvalid_parts hv
  have hs : spanOk n n = true := by unfold spanOk; exact decide_eq_true ⟨h0, Int.le_refl n, h1⟩
  obtain ⟨a1, a2, _⟩ := ladd_props hf h0 (Int.le_refl n) h1
  constructor
  · intro h
    unfold raddOk at h
    rw [hv, hs] at h
    have := of_decide_eq_false h
    omega
  · intro h
    obtain ⟨_, _, h16, _, _⟩ := raddOk_parts h
    rw [radd_eq h]
    have hv2 : rvalid (ladd l n n) = true := by unfold rvalid; rw [a1, decide_eq_true h16]; rfl
    have := rcnt_bnd hf
    unfold rcount
    rw [hv, hv2]
    exact ⟨cnt_add hf h0 h1, this.1, this.2⟩

set_option maxRecDepth 100000 in
set_option maxHeartbeats 1000000 in
theorem cntadd_walk (a : Option Addr) (len cap : Nat) (zs : List Int) (a1 : Option Addr) (len1 cap1 : Nat) (zs1 : List Int) (w : World) (h : IsRow .u8 w a len cap zs) (h1 : IsRow .u8 w a1 len1 cap1 zs1) :
    Calls Try.prog 11 #[.slice a len cap, .slice a1 len1 cap1] w fun e w' => e = .returned (.bool true) ∧ Below w.heap.size w w' := by
  have H := Lib.hid h
  clear h h1
  by_cases hl : 1048576 < len
  · go_enter Try.func11, Try.ntmps11
    go_wp2
    go_ret
    exact ⟨rfl, Below.refl _ _⟩
  by_cases hl1 : 1048576 < len1
  · go_enter Try.func11, Try.ntmps11
    go_wp2
    go_ret
    exact ⟨rfl, Below.refl _ _⟩
  go_enter Try.func11, Try.ntmps11
  go_wp2_with fail
  refine (drawCount_any a len cap zs w H.out).mono ?_
  rintro e w1 ⟨v, l, hl17, rfl, hb1, ho1, hn1⟩
  have B1 := Lib.hid hb1
  obtain ⟨la, lc, rfl⟩ := ownsRow_shape ho1
  have I1 := Lib.hid (Rngs.of_own ho1)
  clear hb1 ho1 hn1
  go_wp2_with fail
  refine (icount_any _ l w1 I1.out (by omega)).mono ?_
  rintro e w2 ⟨rfl, hb2⟩
  have C2 := Lib.hid hb2
  clear hb2
  go_wp2_with fail
  refine (scount_any _ l w2 (I1.out.below C2.out) (by omega)).mono ?_
  rintro e w3 ⟨rfl, hb3⟩
  have C3 := Lib.hid (C2.out.trans (hb3.mono C2.out.size))
  clear hb3
  have hcc : (rcount l != rcount l) = false := by simp
  have hce : (rcount l == rcount l) = true := by simp
  obtain ⟨cn, hcn⟩ : ∃ c, rcount l = c := ⟨_, rfl⟩
  rw [hcn] at hcc hce ⊢
  have HCN := Lib.hid hcn
  clear hcn
  go_wp2_with fail
  refine (svalid_any _ l w3 (I1.out.below C3.out) (by omega)).mono ?_
  rintro e w4 ⟨rfl, hb4⟩
  have C4 := Lib.hid (C3.out.trans (hb4.mono C3.out.size))
  clear hb4
  cases hv : rvalid l with
  | false =>
    go_wp2_with fail
    go_ret
    exact ⟨by first | rfl | (rw [hce]), B1.out.trans (C4.out.mono B1.out.size)⟩
  | true =>
    have hn0 : (0 : Int) ≤ (len1 : Int) % 50 := by omega
    have hn1 : (len1 : Int) % 50 ≤ 999 := by omega
    have PP := Lib.hid (cntadd_parts hv hn0 hn1)
    have HVV := Lib.hid hv
    clear hv
    go_wp2_with fail
    generalize (len1 : Int) % 50 = n at PP hn0 hn1 ⊢
    have hrl := radd_len l n n
    obtain ⟨ok, hok⟩ : ∃ ok, raddOk l n n = ok := ⟨_, rfl⟩
    obtain ⟨r, hr⟩ : ∃ r, radd l n n = r := ⟨_, rfl⟩
    have hpp := PP.out
    rw [hok, hr, HCN.out] at hpp
    rw [hr] at hrl
    have HPP := Lib.hid hpp
    have HOK := Lib.hid hok
    have HR := Lib.hid hr
    clear hpp hok hr PP
    refine (iradd_any _ l n n w4 (I1.out.below C4.out) (by omega)).mono ?_
    rintro e w5 ⟨v5, rfl, hb5, ho5, _⟩
    rw [HOK.out]
    rw [HR.out] at ho5
    have C5 := Lib.hid (C4.out.trans (hb5.mono C4.out.size))
    have I5 := Lib.hid (Rngs.of_own ho5)
    clear hb5 ho5
    cases ok with
    | false =>
      have h16 : ((l.length : Int) == 16) = true := by have := HPP.out.1 rfl; rw [this]; rfl
      go_wp2_with fail
      go_ret
      exact ⟨by first | rfl | (rw [h16]), B1.out.trans (C5.out.mono B1.out.size)⟩
    | true =>
      obtain ⟨q1, q2, q3⟩ := HPP.out.2 rfl
      have HQ := Lib.hid q1
      clear q1
      cases hhl : rhas l n with
      | true =>
        have K1 := Lib.hid (show (rvalid l && rhas l n) = true by rw [HVV.out, hhl]; rfl)
        have HE := Lib.hid (show (rcount r == cn) = true by rw [HQ.out, hhl]; simp)
        clear hhl
        go_wp2_with fail
        refine (ihas_any _ l n w5 (I1.out.below C5.out) (by omega)).mono ?_
        rw [K1.out]
        rintro e w6 ⟨rfl, hb6⟩
        have C6 := Lib.hid (C5.out.trans (hb6.mono C5.out.size))
        have I6 := Lib.hid (I5.out.below hb6)
        clear hb6
        go_wp2_with fail
        refine (icount_any v5 r w6 I6.out (by omega)).mono ?_
        rintro e w7 ⟨rfl, hb7⟩
        have C7 := Lib.hid (C6.out.trans (hb7.mono C6.out.size))
        clear hb7
        go_wp2_with fail
        go_ret
        exact ⟨ret_bool HE.out, B1.out.trans (C7.out.mono B1.out.size)⟩
      | false =>
        have K1 := Lib.hid (show (rvalid l && rhas l n) = false by rw [HVV.out, hhl]; rfl)
        have HE := Lib.hid (show (rcount r == cn + 1) = true by rw [HQ.out, hhl]; simp)
        clear hhl
        go_wp2_with fail
        refine (ihas_any _ l n w5 (I1.out.below C5.out) (by omega)).mono ?_
        rw [K1.out]
        rintro e w6 ⟨rfl, hb6⟩
        have C6 := Lib.hid (C5.out.trans (hb6.mono C5.out.size))
        have I6 := Lib.hid (I5.out.below hb6)
        clear hb6
        go_wp2_with fail
        refine (icount_any v5 r w6 I6.out (by omega)).mono ?_
        rintro e w7 ⟨rfl, hb7⟩
        have C7 := Lib.hid (C6.out.trans (hb7.mono C6.out.size))
        clear hb7
        go_wp2_with fail
        go_ret
        exact ⟨ret_bool HE.out, B1.out.trans (C7.out.mono B1.out.size)⟩

end Go.Proofs.Ytcjhbcibhcogjaa
