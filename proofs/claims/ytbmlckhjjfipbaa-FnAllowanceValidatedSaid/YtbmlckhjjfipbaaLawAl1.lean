/- The laws of the allowance: the walks. -/
import Derived.Test.YtbmlckhjjfipbaaTkAl
import Derived.Test.YtbmlckhjjfipbaaDrAl
namespace Go.Proofs.Ytbmlckhjjfipbaa
open Go.RowKit
set_option linter.unusedVariables false
set_option linter.unusedSimpArgs false

theorem allow_three {r s : Int} (hz : allow r s false ≠ 0) : s + allow r s false ≤ 3 * r := by
  rcases allow_cases r s false with ⟨_, h⟩ | ⟨k, ⟨hv, h⟩ | ⟨hv, h⟩⟩
  · exact absurd h hz
  · cases hv
  · omega
theorem allow_less (r s : Int) : allow r s false ≤ allow r s true := by
  by_cases h : (0 ≤ r ∧ r ≤ 9999) ∧ (0 ≤ s ∧ s ≤ 9999)
  · rw [allow_yes h, allow_not h]; omega
  · rw [allow_no h, allow_no h]; omega

set_option maxRecDepth 100000 in
set_option maxHeartbeats 2000000 in
theorem althree_walk (a : Option Addr) (len cap : Nat) (zs : List Int) (w : World) (h : IsRow .u8 w a len cap zs) :
    Calls Try.prog 4 #[.slice a len cap] w fun e w' => e = .returned (.bool true) ∧ Below w.heap.size w w' := by
  have H := Lib.hid h
  clear h
  by_cases hl : 1048576 < len
  · go_enter Try.func4, Try.ntmps4
    go_wp2
    go_ret
    exact ⟨rfl, Below.refl _ _⟩
  go_enter Try.func4, Try.ntmps4
  go_wp2_with fail
  refine (drawAl_any a len cap zs w H.out).mono ?_
  rintro e w1 ⟨r, s, v, ⟨⟨hr0, hr9⟩, hs0, hs9⟩, rfl, hb1⟩
  have B1 := Lib.hid hb1
  clear hb1
  go_wp2_with fail
  refine (iallow_any r s v w1).mono ?_
  rintro e w2 ⟨rfl, rfl⟩
  go_wp2_with fail
  refine (sallow_any r s v w1).mono ?_
  rintro e w3 ⟨rfl, rfl⟩
  obtain ⟨q, hq⟩ : ∃ q, allow r s v = q := ⟨_, rfl⟩
  cases v
  · have HT := Lib.hid (allow_three (r := r) (s := s))
    have hbq := allow_bd r s false
    rw [hq] at HT hbq ⊢
    obtain ⟨hb0, hb9⟩ := hbq
    clear hq
    by_cases hz : q = 0
    · subst hz
      go_wp2_with fail
      go_ret
      exact ⟨by simp, B1.out⟩
    · have hz' : (q == 0) = false := by rw [beq_eq_false_iff_ne]; exact hz
      have hle : s + q ≤ 3 * r := HT.out hz
      have hd := decide_eq_true hle
      go_wp2_with fail
      go_ret
      exact ⟨by simp [hle], B1.out⟩
  · rw [hq]
    clear hq
    go_wp2_with fail
    go_ret
    exact ⟨by simp, B1.out⟩

set_option maxRecDepth 100000 in
set_option maxHeartbeats 2000000 in
theorem alvalid_walk (a : Option Addr) (len cap : Nat) (zs : List Int) (w : World) (h : IsRow .u8 w a len cap zs) :
    Calls Try.prog 5 #[.slice a len cap] w fun e w' => e = .returned (.bool true) ∧ Below w.heap.size w w' := by
  have H := Lib.hid h
  clear h
  by_cases hl : 1048576 < len
  · go_enter Try.func5, Try.ntmps5
    go_wp2
    go_ret
    exact ⟨rfl, Below.refl _ _⟩
  go_enter Try.func5, Try.ntmps5
  go_wp2_with fail
  refine (drawAl_any a len cap zs w H.out).mono ?_
  rintro e w1 ⟨r, s, v, ⟨⟨hr0, hr9⟩, hs0, hs9⟩, rfl, hb1⟩
  have B1 := Lib.hid hb1
  clear hb1
  go_wp2_with fail
  refine (iallow_any r s v w1).mono ?_
  rintro e w2 ⟨rfl, rfl⟩
  go_wp2_with fail
  refine (sallow_any r s v w1).mono ?_
  rintro e w3 ⟨rfl, rfl⟩
  have HC := Lib.hid (allow_yes (r := r) (s := s))
  have HC2 := Lib.hid (allow_less r s)
  have HBD := Lib.hid (allow_bd r s false)
  have HBT := Lib.hid (allow_bd r s true)
  go_wp2_with fail
  refine (iallow_any r s true w1).mono ?_
  rintro e w2 ⟨rfl, rfl⟩
  go_wp2_with fail
  refine (iallow_any r s false w1).mono ?_
  rintro e w3 ⟨rfl, rfl⟩
  obtain ⟨p, hp⟩ : ∃ p, allow r s true = p := ⟨_, rfl⟩
  obtain ⟨q, hq⟩ : ∃ q, allow r s false = q := ⟨_, rfl⟩
  have k := HC.out
  have k2 := HC2.out
  have k3 := HBD.out
  have k4 := HBT.out
  rw [hp] at k k2 k4 ⊢
  rw [hq] at k2 k3 ⊢
  have HP := Lib.hid hp
  have HQ := Lib.hid hq
  have hpq : q ≤ p := k2
  have d1 := decide_eq_true hpq
  have d2 := decide_eq_true k3.1
  by_cases hv : (0 ≤ r ∧ r ≤ 9999) ∧ (0 ≤ s ∧ s ≤ 9999)
  · have he : p = 9999 - s := k hv
    have he' : (p == 9999 - s) = true := by rw [beq_iff_eq]; exact he
    obtain ⟨⟨v1, v2⟩, v3, v4⟩ := hv
    have e1 := decide_eq_true v1
    have e2 := decide_eq_true v2
    have e3 := decide_eq_true v3
    have e4 := decide_eq_true v4
    clear k k2 hp hq he
    go_wp2_with fail
    go_ret
    exact ⟨by simp [hpq], B1.out⟩
  · have HN := Lib.hid hv
    clear k k2 hp hq hv
    by_cases v1 : 0 ≤ r
    · have e1 := decide_eq_true v1
      by_cases v2 : r ≤ 9999
      · have e2 := decide_eq_true v2
        by_cases v3 : 0 ≤ s
        · have e3 := decide_eq_true v3
          have v4 : ¬ s ≤ 9999 := fun h => HN.out ⟨⟨v1, v2⟩, v3, h⟩
          have e4 := decide_eq_false v4
          go_wp2_with fail
          go_ret
          exact ⟨by simp [hpq], B1.out⟩
        · have e3 := decide_eq_false v3
          go_wp2_with fail
          go_ret
          exact ⟨by simp [hpq], B1.out⟩
      · have e2 := decide_eq_false v2
        go_wp2_with fail
        go_ret
        exact ⟨by simp [hpq], B1.out⟩
    · have e1 := decide_eq_false v1
      go_wp2_with fail
      go_ret
      exact ⟨by simp [hpq], B1.out⟩


end Go.Proofs.Ytbmlckhjjfipbaa
