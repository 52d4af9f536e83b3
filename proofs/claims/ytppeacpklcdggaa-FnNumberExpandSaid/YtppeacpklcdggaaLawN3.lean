/- The laws NumberExpand, NumberShift: the walks. -/
import Derived.Test.YtppeacpklcdggaaLawN2
import Derived.Test.YtppeacpklcdggaaDrNe
namespace Go.Proofs.Ytppeacpklcdggaa
open Go.RowKit
set_option linter.unusedVariables false
set_option linter.unusedSimpArgs false

set_option maxRecDepth 100000 in
set_option maxHeartbeats 2000000 in
theorem nexp_walk (a : Option Addr) (len cap : Nat) (zs : List Int) (w : World) (h : IsRow .u8 w a len cap zs) :
    Calls Try.prog 8 #[.slice a len cap] w fun e w' => e = .returned (.bool true) ∧ Below w.heap.size w w' := by
  have H := Lib.hid h
  clear h
  by_cases hl : 1048576 < len
  · go_enter Try.func8, Try.ntmps8
    go_wp2
    go_ret
    exact ⟨rfl, Below.refl _ _⟩
  go_enter Try.func8, Try.ntmps8
  go_wp2_with fail
  refine (drawNExp_any a len cap zs w H.out).mono ?_
  rintro e w1 ⟨g, v, b, ⟨⟨hg0, hg9⟩, ⟨hv0, hv9⟩, hk0, hk9⟩, rfl, hb1⟩
  have B1 := Lib.hid hb1
  clear hb1
  go_wp2_with fail
  refine (inexp_any g v b w1).mono ?_
  rintro e w2 ⟨rfl, hb2⟩
  have B2 := Lib.hid (B1.out.trans (hb2.mono B1.out.size))
  clear hb2
  go_wp2_with fail
  refine (snexp_any g v b w2).mono ?_
  rintro e w3 ⟨rfl, hb3⟩
  have B3 := Lib.hid (B2.out.trans (hb3.mono B2.out.size))
  clear hb3
  obtain ⟨o, ho⟩ : ∃ o, nexp g v b = o := ⟨_, rfl⟩
  rw [ho]
  by_cases hz : o < 0
  · clear ho
    go_wp2_with fail
    go_ret
    exact ⟨by simp, B3.out⟩
  have hp := nexp_parts (g := g) (v := v) (b := b) (by omega)
  have hnear := nexp_near (g := g) (v := v) (b := b) (by omega)
  have hbd := nexp_bnd g v b
  rw [ho] at hnear hbd
  obtain ⟨p1, p2, p3, p4⟩ := hp
  have hsz0 : nsz b ≠ 0 := by omega
  have P3 := Lib.hid hsz0
  have HL := Lib.hid hnear
  have P4 := Lib.hid p4
  have hb12 : b ≤ 12 := by rcases nsz_cases b with ⟨_, _⟩ | ⟨_, _⟩ | ⟨_, _⟩ | ⟨_, _, _, _⟩ <;> omega
  have q1 : IntKind.i64.wrap (g + 1) = g + 1 := IntWalk.i64_in _ (by omega)
  clear ho hnear hsz0 p4
  go_wp2_with fail
  go_loopw [8, 9] (fun sv iv wr => ∃ (i : Nat) (s : Int), (i : Int) ≤ b ∧ sv = .int .i64 s ∧ iv = .int .i64 i ∧ Hid (s = ((2 ^ i : Nat) : Int)) ∧ wr = w3) (fun _ iv _ => (b - intOf iv).toNat)
  case atStart => exact ⟨0, 1, by omega, rfl, rfl, rfl, rfl⟩
  case round =>
    obtain ⟨i, s, hi, rfl, rfl, HS, rfl⟩ := hrel
    have hs0 : 1 ≤ s ∧ s ≤ 4096 := by rw [HS.out]; exact pow_bnd (by omega)
    by_cases hin : (i : Int) < b
    · have HN := Lib.hid (show 2 * s = ((2 ^ (i + 1) : Nat) : Int) by have h1 := HS.out; rw [Nat.pow_succ]; omega)
      go_wp2_with fail
      go_roundw
      case rel => exact ⟨i + 1, 2 * s, by omega, by go_num, by go_num, HN.out, by first | rfl | trivial⟩
      case measure => simp [intOf]; omega
    · have he : (i : Int) = b := by omega
      have hsz : s = nsz b := by rw [HS.out]; exact pow_size P3.out he
      have hn := HL.out
      rw [← hsz] at hn
      obtain ⟨n1, n2, n3⟩ := hn
      have hsn : ¬ s = 0 := by omega
      have hmod : Int.tmod o s = v := by rw [Int.tmod_eq_emod_of_nonneg (by omega)]; exact n1
      have hdv : Int.tdiv s 2 = s / 2 := Int.tdiv_eq_ediv_of_nonneg (by omega)
      have d0 : 0 ≤ s / 2 ∧ s / 2 ≤ 2048 := by omega
      have q2 : IntKind.i64.wrap (g + 1 - s / 2) = g + 1 - s / 2 := IntWalk.i64_in _ (by omega)
      have q3 : IntKind.i64.wrap (g + 1 + s / 2) = g + 1 + s / 2 := IntWalk.i64_in _ (by omega)
      clear hsz he n1
      by_cases hov : o = v
      · have hovb : (o == v) = true := by rw [beq_iff_eq]; exact hov
        clear hov n3
        go_wp2_with fail
        go_ret
        exact ⟨by simp, B3.out⟩
      · have hovb : (o == v) = false := by rw [beq_eq_false_iff_ne]; exact hov
        have n4 : o ≤ g + 1 + s / 2 := by omega
        clear hov n3
        go_wp2_with fail
        go_ret
        exact ⟨by simp, B3.out⟩

set_option maxRecDepth 100000 in
set_option maxHeartbeats 2000000 in
theorem nshift_walk (a : Option Addr) (len cap : Nat) (zs : List Int) (w : World) (h : IsRow .u8 w a len cap zs) :
    Calls Try.prog 9 #[.slice a len cap] w fun e w' => e = .returned (.bool true) ∧ Below w.heap.size w w' := by
  have H := Lib.hid h
  clear h
  by_cases hl : 1048576 < len
  · go_enter Try.func9, Try.ntmps9
    go_wp2
    go_ret
    exact ⟨rfl, Below.refl _ _⟩
  go_enter Try.func9, Try.ntmps9
  go_wp2_with fail
  refine (drawNExp_any a len cap zs w H.out).mono ?_
  rintro e w1 ⟨g, v, b, ⟨⟨hg0, hg9⟩, ⟨hv0, hv9⟩, hk0, hk9⟩, rfl, hb1⟩
  have B1 := Lib.hid hb1
  clear hb1
  go_wp2_with fail
  refine (inexp_any g v b w1).mono ?_
  rintro e w2 ⟨rfl, hb2⟩
  have B2 := Lib.hid (B1.out.trans (hb2.mono B1.out.size))
  clear hb2
  go_wp2_with fail
  refine (snexp_any g v b w2).mono ?_
  rintro e w3 ⟨rfl, hb3⟩
  have B3 := Lib.hid (B2.out.trans (hb3.mono B2.out.size))
  clear hb3
  obtain ⟨o, ho⟩ : ∃ o, nexp g v b = o := ⟨_, rfl⟩
  rw [ho]
  by_cases hz : o < 0
  · clear ho
    go_wp2_with fail
    go_ret
    exact ⟨by simp, B3.out⟩
  have hp := nexp_parts (g := g) (v := v) (b := b) (by omega)
  have hbd := nexp_bnd g v b
  rw [ho] at hbd
  obtain ⟨p1, p2, p3, p4⟩ := hp
  have hsz0 : nsz b ≠ 0 := by omega
  have P3 := Lib.hid hsz0
  have HO := Lib.hid ho
  have hb12 : b ≤ 12 := by rcases nsz_cases b with ⟨_, _⟩ | ⟨_, _⟩ | ⟨_, _⟩ | ⟨_, _, _, _⟩ <;> omega
  clear ho hsz0 p4
  go_wp2_with fail
  go_loopw [8, 9] (fun sv iv wr => ∃ (i : Nat) (s : Int), (i : Int) ≤ b ∧ sv = .int .i64 s ∧ iv = .int .i64 i ∧ Hid (s = ((2 ^ i : Nat) : Int)) ∧ wr = w3) (fun _ iv _ => (b - intOf iv).toNat)
  case atStart => exact ⟨0, 1, by omega, rfl, rfl, rfl, rfl⟩
  case round =>
    obtain ⟨i, s, hi, rfl, rfl, HS, rfl⟩ := hrel
    have hs0 : 1 ≤ s ∧ s ≤ 4096 := by rw [HS.out]; exact pow_bnd (by omega)
    by_cases hin : (i : Int) < b
    · have HN := Lib.hid (show 2 * s = ((2 ^ (i + 1) : Nat) : Int) by have h1 := HS.out; rw [Nat.pow_succ]; omega)
      go_wp2_with fail
      go_roundw
      case rel => exact ⟨i + 1, 2 * s, by omega, by go_num, by go_num, HN.out, by first | rfl | trivial⟩
      case measure => simp [intOf]; omega
    · have he : (i : Int) = b := by omega
      have hsz : s = nsz b := by rw [HS.out]; exact pow_size P3.out he
      have HSZ := Lib.hid hsz
      have q2 : IntKind.i64.wrap (g + s) = g + s := IntWalk.i64_in _ (by omega)
      have q3 : IntKind.i64.wrap (o + s) = o + s := IntWalk.i64_in _ (by omega)
      clear hsz he
      by_cases c1 : g < s
      · go_wp2_with fail
        go_ret
        exact ⟨by simp, B3.out⟩
      by_cases c2 : 999 < g + s
      · go_wp2_with fail
        go_ret
        exact ⟨by simp, B3.out⟩
      have R : Hid (nexp (g + s) v b = o + s) := Lib.hid (by
        have e := nexp_shift (g := g) (v := v) (b := b) (by rw [HO.out]; omega) (by rw [← HSZ.out]; omega) (by rw [← HSZ.out]; omega)
        rw [← HSZ.out, HO.out] at e
        exact e)
      go_wp2_with fail
      refine (inexp_any _ _ _ _).mono ?_
      rw [R.out]
      rintro e w5 ⟨rfl, hb5⟩
      have B5 := Lib.hid (B3.out.trans (hb5.mono B3.out.size))
      clear hb5
      go_wp2_with fail
      go_ret
      exact ⟨by simp, B5.out⟩

end Go.Proofs.Ytppeacpklcdggaa
