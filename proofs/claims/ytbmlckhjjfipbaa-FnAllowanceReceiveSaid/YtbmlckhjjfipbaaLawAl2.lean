/- The laws of the allowance: the walks. -/
import Derived.Test.YtbmlckhjjfipbaaTkAl
import Derived.Test.YtbmlckhjjfipbaaDrAl
namespace Go.Proofs.Ytbmlckhjjfipbaa
open Go.RowKit
set_option linter.unusedVariables false
set_option linter.unusedSimpArgs false

theorem allow_spend {r s n : Int} {v : Bool} (hn : 0 ≤ n) (hle : n ≤ allow r s v) (hz : allow r s v ≠ 0) : allow r (s + n) v = allow r s v - n := by
  rcases allow_cases r s v with ⟨_, h⟩ | ⟨k, ⟨hv, h⟩ | ⟨hv, h⟩⟩
  · exact absurd h hz
  · subst hv
    rw [h] at hle ⊢
    rw [allow_yes ⟨k.1, by omega, by omega⟩]; omega
  · subst hv
    rw [h] at hle hz ⊢
    rw [allow_not ⟨k.1, by omega, by omega⟩]; omega
theorem allow_receive {r s n : Int} {v : Bool} (hn : 0 ≤ n) (hr : 0 ≤ r) (hm : r + n ≤ 9999) : allow r s v ≤ allow (r + n) s v := by
  rcases allow_cases r s v with ⟨_, h⟩ | ⟨k, ⟨hv, h⟩ | ⟨hv, h⟩⟩
  · rw [h]; exact (allow_bd _ _ _).1
  · subst hv
    rw [h, allow_yes ⟨⟨by omega, by omega⟩, k.2⟩]; omega
  · subst hv
    rw [h, allow_not ⟨⟨by omega, by omega⟩, k.2⟩]; omega
theorem allow_nothing (s : Int) : allow 0 s false = 0 := by
  rcases allow_cases 0 s false with ⟨_, h⟩ | ⟨k, ⟨hv, h⟩ | ⟨hv, h⟩⟩
  · exact h
  · cases hv
  · omega

set_option maxRecDepth 100000 in
set_option maxHeartbeats 2000000 in
theorem alspend_walk (a : Option Addr) (len cap : Nat) (zs : List Int) (a1 : Option Addr) (len1 cap1 : Nat) (zs1 : List Int) (w : World) (h : IsRow .u8 w a len cap zs) (h1 : IsRow .u8 w a1 len1 cap1 zs1) :
    Calls Try.prog 6 #[.slice a len cap, .slice a1 len1 cap1] w fun e w' => e = .returned (.bool true) ∧ Below w.heap.size w w' := by
  have H := Lib.hid h
  clear h h1
  by_cases hl : 1048576 < len
  · go_enter Try.func6, Try.ntmps6
    go_wp2
    go_ret
    exact ⟨rfl, Below.refl _ _⟩
  by_cases hl1 : 1048576 < len1
  · go_enter Try.func6, Try.ntmps6
    go_wp2
    go_ret
    exact ⟨rfl, Below.refl _ _⟩
  go_enter Try.func6, Try.ntmps6
  go_wp2_with fail
  refine (drawAl_any a len cap zs w H.out).mono ?_
  rintro e w1 ⟨r, s, v, ⟨⟨hr0, hr9⟩, hs0, hs9⟩, rfl, hb1⟩
  have B1 := Lib.hid hb1
  clear hb1
  go_wp2_with fail
  refine (iallow_any r s v w1).mono ?_
  rintro e w2 ⟨rfl, rfl⟩
  go_wp2_with fail
  refine (sallow_any r s v w1).mono ?_
  rintro e w3 ⟨rfl, rfl⟩
  obtain ⟨q, hq⟩ : ∃ q, allow r s v = q := ⟨_, rfl⟩
  have hbd := allow_bd r s v
  rw [hq] at hbd ⊢
  by_cases hz : q = 0
  · subst hz
    have HQ := Lib.hid hq
    clear hq
    go_wp2_with fail
    go_ret
    exact ⟨by simp, B1.out⟩
  · have hz' : (q == 0) = false := by rw [beq_eq_false_iff_ne]; exact hz
    obtain ⟨n, hn⟩ : ∃ n : Int, (len1 : Int) % (q + 1) = n := ⟨_, rfl⟩
    have hn0 : 0 ≤ n ∧ n < q + 1 := by rw [← hn]; exact ⟨Int.emod_nonneg _ (by omega), Int.emod_lt_of_pos _ (by omega)⟩
    have hnt : Int.tmod (len1 : Int) (q + 1) = n := by rw [← hn]; exact Int.tmod_eq_emod_of_nonneg (by omega)
    have HS := Lib.hid (allow_spend (r := r) (s := s) (n := n) (v := v) hn0.1 (by omega) (by omega))
    have HQ := Lib.hid hq
    obtain ⟨hn0, hn1⟩ := hn0
    have hq1 : (q + 1 == 0) = false := by rw [beq_eq_false_iff_ne]; omega
    have hq2 : ¬ q + 1 = 0 := by omega
    clear hq hn hz
    go_wp2_with fail
    refine (iallow_any r (s + n) v w1).mono ?_
    rw [HS.out, HQ.out]
    rintro e w2 ⟨rfl, rfl⟩
    go_wp2_with fail
    go_ret
    exact ⟨by simp, B1.out⟩

set_option maxRecDepth 100000 in
set_option maxHeartbeats 2000000 in
theorem alrecv_walk (a : Option Addr) (len cap : Nat) (zs : List Int) (a1 : Option Addr) (len1 cap1 : Nat) (zs1 : List Int) (w : World) (h : IsRow .u8 w a len cap zs) (h1 : IsRow .u8 w a1 len1 cap1 zs1) :
    Calls Try.prog 7 #[.slice a len cap, .slice a1 len1 cap1] w fun e w' => e = .returned (.bool true) ∧ Below w.heap.size w w' := by
  have H := Lib.hid h
  clear h h1
  by_cases hl : 1048576 < len
  · go_enter Try.func7, Try.ntmps7
    go_wp2
    go_ret
    exact ⟨rfl, Below.refl _ _⟩
  by_cases hl1 : 1048576 < len1
  · go_enter Try.func7, Try.ntmps7
    go_wp2
    go_ret
    exact ⟨rfl, Below.refl _ _⟩
  go_enter Try.func7, Try.ntmps7
  go_wp2_with fail
  refine (drawAl_any a len cap zs w H.out).mono ?_
  rintro e w1 ⟨r, s, v, ⟨⟨hr0, hr9⟩, hs0, hs9⟩, rfl, hb1⟩
  have B1 := Lib.hid hb1
  clear hb1
  go_wp2_with fail
  refine (iallow_any r s v w1).mono ?_
  rintro e w2 ⟨rfl, rfl⟩
  go_wp2_with fail
  refine (sallow_any r s v w1).mono ?_
  rintro e w3 ⟨rfl, rfl⟩
  obtain ⟨n, hn⟩ : ∃ n : Int, (len1 : Int) % 50 = n := ⟨_, rfl⟩
  have hn0 : 0 ≤ n ∧ n < 50 := by omega
  have hnt : Int.tmod (len1 : Int) 50 = n := by rw [← hn]; exact Int.tmod_eq_emod_of_nonneg (by omega)
  obtain ⟨hn0, hn1⟩ := hn0
  obtain ⟨q, hq⟩ : ∃ q, allow r s v = q := ⟨_, rfl⟩
  have HQ := Lib.hid hq
  rw [hq]
  clear hq hn
  by_cases c1 : 9999 < r + n
  · have d1 := decide_eq_true c1
    go_wp2_with fail
    go_ret
    exact ⟨by simp, B1.out⟩
  · have d1 := decide_eq_false c1
    by_cases c2 : r < 0
    · have d2 := decide_eq_true c2
      go_wp2_with fail
      go_ret
      exact ⟨by simp, B1.out⟩
    · have d2 := decide_eq_false c2
      have HR := Lib.hid (allow_receive (r := r) (s := s) (n := n) (v := v) hn0 (by omega) (by omega))
      go_wp2_with (go_at_call 14; refine (iallow_any (r + n) s v w1).mono ?_; rintro e w2 ⟨rfl, rfl⟩)
      go_ret
      exact ⟨by first | (simp; done) | (have hr := HR.out; rw [HQ.out] at hr; simp; omega), B1.out⟩

set_option maxRecDepth 100000 in
set_option maxHeartbeats 2000000 in
theorem alnothing_walk (a : Option Addr) (len cap : Nat) (zs : List Int) (w : World) (h : IsRow .u8 w a len cap zs) :
    Calls Try.prog 8 #[.slice a len cap] w fun e w' => e = .returned (.bool true) ∧ Below w.heap.size w w' := by
  have H := Lib.hid h
  clear h
  by_cases hl : 1048576 < len
  · go_enter Try.func8, Try.ntmps8
    go_wp2
    go_ret
    exact ⟨rfl, Below.refl _ _⟩
  go_enter Try.func8, Try.ntmps8
  go_wp2_with fail
  refine (drawAl_any a len cap zs w H.out).mono ?_
  rintro e w1 ⟨r, s, v, ⟨⟨hr0, hr9⟩, hs0, hs9⟩, rfl, hb1⟩
  have B1 := Lib.hid hb1
  clear hb1
  go_wp2_with fail
  refine (iallow_any r s v w1).mono ?_
  rintro e w2 ⟨rfl, rfl⟩
  go_wp2_with fail
  refine (sallow_any r s v w1).mono ?_
  rintro e w3 ⟨rfl, rfl⟩
  have HZ := Lib.hid (allow_nothing s)
  go_wp2_with fail
  refine (iallow_any 0 s false w1).mono ?_
  rw [HZ.out]
  rintro e w2 ⟨rfl, rfl⟩
  go_wp2_with fail
  go_ret
  exact ⟨by simp, B1.out⟩


end Go.Proofs.Ytbmlckhjjfipbaa
