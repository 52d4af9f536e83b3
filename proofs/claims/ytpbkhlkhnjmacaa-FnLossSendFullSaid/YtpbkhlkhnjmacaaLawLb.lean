/- The law FnLossSendFull: the walk. -/
import Derived.Test.YtpbkhlkhnjmacaaLawLs
import Derived.Test.YtpbkhlkhnjmacaaIVm
import Derived.Deep.CutBlock
import Derived.BigQuiet
import Derived.Deep.QuietTactic
import Derived.Deep.Draws
namespace Go.Proofs.Ytpbkhlkhnjmacaa
open Go.RowKit
set_option linter.unusedVariables false
set_option linter.unusedSimpArgs false

set_option maxRecDepth 100000 in
set_option maxHeartbeats 8000000 in
theorem losssendfull_walk (a : Option Addr) (len cap : Nat) (zs : List Int) (w : World) (h : IsRow .u8 w a len cap zs) :
    Calls Try.prog 5 #[.slice a len cap] w fun e w' => e = .returned (.bool true) ∧ Below w.heap.size w w' := by
  have H := Lib.hid h
  clear h
  by_cases hl : 1048576 < len
  · go_enter Try.func5, Try.ntmps5
    go_wp2
    go_ret
    exact ⟨rfl, Below.refl _ _⟩
  go_enter Try.func5, Try.ntmps5
  go_wp2_with fail
  refine (drsend_any a len cap zs w H.out).mono ?_
  rintro e w1 ⟨n, g, t, z, v1, l, rfl, hl12, hO1, hn1, hb1⟩
  have V1 := Lib.hid (SV.own (n := n) (g := g) hO1 25)
  have B1 := Lib.hid (bup hb1 (below_al w1 (.cells #[.int .i64 n, v1, .int .i64 g] 25)))
  obtain ⟨a1, c1, rfl⟩ := OwnPk.shape hO1
  have HL := Lib.hid hl12
  clear hO1 hn1 hb1 hl12
  go_upto_region 4 with fail
  generalize w1.alloc (.cells #[.int .i64 n, .slice a1 l.length c1, .int .i64 g] 25) = W1 at V1 B1 ⊢
  generalize w1.heap.size = xb at V1 ⊢
  obtain ⟨⟨⟨rn, rl, rg⟩, ri, rb⟩, hq⟩ : ∃ r, lsendv (n, l, g) t z = r := ⟨_, rfl⟩
  have HQ := Lib.hid hq
  have HRL : Hid (rl.length ≤ 13) := Lib.hid (by have := lsendv_len (n := n) (g := g) (t := t) (z := z) HL.out; rw [hq] at this; exact this)
  have CI := Lib.hid (ilsend_any n g t z _ l W1 V1.out.k (by have := HL.out; omega))
  rw [hq] at CI
  obtain ⟨x0, x1, x2⟩ := V1.out.c
  go_wp2_with fail
  refine CI.out.mono ?_
  rintro e w2 ⟨v2, rfl, hO2, hb2⟩
  dsimp only at hO2 ⊢
  have V2 := Lib.hid (SV.own (n := rn) (g := rg) hO2 25)
  obtain ⟨a2, c2, rfl⟩ := OwnPk.shape hO2
  have U2 := Lib.hid (bup hb2 (below_al w2 (.cells #[.int .i64 rn, .slice a2 rl.length c2, .int .i64 rg] 25)))
  have V1' := Lib.hid (V1.out.below U2.out)
  have B2 := Lib.hid (bup B1.out U2.out)
  clear hO2 hb2 x0 x1 x2 V1 CI
  go_upto_region 5 with fail
  generalize w2.alloc (.cells #[.int .i64 rn, .slice a2 rl.length c2, .int .i64 rg] 25) = W2 at V2 U2 V1' B2 ⊢
  generalize w2.heap.size = yb at V2 ⊢
  have CS := Lib.hid (slosssend_any n g t z _ l W2 V1'.out.k V1'.out.nil (by have := HL.out; omega))
  rw [hq] at CS
  clear hq U2
  obtain ⟨x0, x1, x2⟩ := V1'.out.c
  go_wp2_with fail
  refine CS.out.mono ?_
  rintro e w3 ⟨v3, rfl, hO3, hb3⟩
  dsimp only at hO3 ⊢
  have V3 := Lib.hid (SV.own (n := rn) (g := rg) hO3 25)
  obtain ⟨a3, c3, rfl⟩ := OwnPk.shape hO3
  have U3 := Lib.hid (bup hb3 (below_al w3 (.cells #[.int .i64 rn, .slice a3 rl.length c3, .int .i64 rg] 25)))
  have X1 := Lib.hid (V1'.out.below U3.out)
  have X2 := Lib.hid (V2.out.below U3.out)
  have B3 := Lib.hid (bup B2.out U3.out)
  clear hO3 hb3 x0 x1 x2 V1' V2 CS B1 B2
  go_upto_region 6 with fail
  generalize w3.alloc (.cells #[.int .i64 rn, .slice a3 rl.length c3, .int .i64 rg] 25) = W3 at V3 U3 X1 X2 B3 ⊢
  generalize w3.heap.size = zb at V3 ⊢
  clear U3
  have HSM := Lib.hid (fun W (hb : Below W3.heap.size W3 W) => samels_any rn rg _ _ rl W (X2.out.below hb).k (V3.out.below hb).k (by have := HRL.out; omega))
  obtain ⟨x0, x1, x2⟩ := X1.out.c
  obtain ⟨y0, y1, y2⟩ := X2.out.c
  obtain ⟨z0, z1, z2⟩ := V3.out.c
  have CV := Lib.hid (fun W (hb : Below W3.heap.size W3 W) => slval_any n g _ l W (X1.out.below hb).k (by have := HL.out; omega))
  by_cases hv : lok (n, l, g)
  case neg =>
    have HD := Lib.hid (decide_eq_false hv)
    clear hv
    go_wp2_with fail
    refine (HSM.out _ (Below.refl _ _)).mono ?_
    rintro e w4 ⟨rfl, hb4⟩
    have B4 := Lib.hid (bup B3.out hb4)
    have P1 := Lib.hid (X1.out.below hb4)
    have P2 := Lib.hid (X2.out.below hb4)
    have P3 := Lib.hid (V3.out.below hb4)
    clear x0 x1 x2 y0 y1 y2 z0 z1 z2
    obtain ⟨x0, x1, x2⟩ := P1.out.c
    obtain ⟨y0, y1, y2⟩ := P2.out.c
    obtain ⟨z0, z1, z2⟩ := P3.out.c
    have CV4 := Lib.hid (CV.out _ hb4)
    clear hb4
    go_wp2_with fail
    refine CV4.out.mono ?_
    rw [HD.out]
    rintro e w5 ⟨rfl, hb5⟩
    have B5 := Lib.hid (bup B4.out hb5)
    have Q1 := Lib.hid (P1.out.below hb5)
    have Q2 := Lib.hid (P2.out.below hb5)
    have Q3 := Lib.hid (P3.out.below hb5)
    clear hb5 x0 x1 x2 y0 y1 y2 z0 z1 z2
    obtain ⟨x0, x1, x2⟩ := Q1.out.c
    obtain ⟨y0, y1, y2⟩ := Q2.out.c
    obtain ⟨z0, z1, z2⟩ := Q3.out.c
    go_wp2_with fail
    refine (samels_any rn rg _ _ rl w5 Q2.out.k Q3.out.k (by have := HRL.out; omega)).mono ?_
    rintro e w6 ⟨rfl, hb6⟩
    have B6 := Lib.hid (bup B5.out hb6)
    clear hb6
    go_wp2_with fail
    go_ret
    exact ⟨rfl, B6.out⟩
  have HD := Lib.hid (decide_eq_true hv)
  by_cases ht1 : t < 0
  case pos =>
    have hd := decide_eq_true ht1
    clear hv
    go_wp2_with fail
    refine (HSM.out _ (Below.refl _ _)).mono ?_
    rintro e w4 ⟨rfl, hb4⟩
    have B4 := Lib.hid (bup B3.out hb4)
    have P1 := Lib.hid (X1.out.below hb4)
    have P2 := Lib.hid (X2.out.below hb4)
    have P3 := Lib.hid (V3.out.below hb4)
    clear x0 x1 x2 y0 y1 y2 z0 z1 z2
    obtain ⟨x0, x1, x2⟩ := P1.out.c
    obtain ⟨y0, y1, y2⟩ := P2.out.c
    obtain ⟨z0, z1, z2⟩ := P3.out.c
    have CV4 := Lib.hid (CV.out _ hb4)
    clear hb4
    go_wp2_with fail
    refine CV4.out.mono ?_
    rw [HD.out]
    rintro e w5 ⟨rfl, hb5⟩
    have B5 := Lib.hid (bup B4.out hb5)
    have Q1 := Lib.hid (P1.out.below hb5)
    have Q2 := Lib.hid (P2.out.below hb5)
    have Q3 := Lib.hid (P3.out.below hb5)
    clear hb5 x0 x1 x2 y0 y1 y2 z0 z1 z2
    obtain ⟨x0, x1, x2⟩ := Q1.out.c
    obtain ⟨y0, y1, y2⟩ := Q2.out.c
    obtain ⟨z0, z1, z2⟩ := Q3.out.c
    go_wp2_with fail
    refine (samels_any rn rg _ _ rl w5 Q2.out.k Q3.out.k (by have := HRL.out; omega)).mono ?_
    rintro e w6 ⟨rfl, hb6⟩
    have B6 := Lib.hid (bup B5.out hb6)
    clear hb6
    go_wp2_with fail
    go_ret
    exact ⟨rfl, B6.out⟩
  have hd1 := decide_eq_false ht1
  by_cases ht2 : 999 < t
  case pos =>
    have hd := decide_eq_true ht2
    clear hv
    go_wp2_with fail
    refine (HSM.out _ (Below.refl _ _)).mono ?_
    rintro e w4 ⟨rfl, hb4⟩
    have B4 := Lib.hid (bup B3.out hb4)
    have P1 := Lib.hid (X1.out.below hb4)
    have P2 := Lib.hid (X2.out.below hb4)
    have P3 := Lib.hid (V3.out.below hb4)
    clear x0 x1 x2 y0 y1 y2 z0 z1 z2
    obtain ⟨x0, x1, x2⟩ := P1.out.c
    obtain ⟨y0, y1, y2⟩ := P2.out.c
    obtain ⟨z0, z1, z2⟩ := P3.out.c
    have CV4 := Lib.hid (CV.out _ hb4)
    clear hb4
    go_wp2_with fail
    refine CV4.out.mono ?_
    rw [HD.out]
    rintro e w5 ⟨rfl, hb5⟩
    have B5 := Lib.hid (bup B4.out hb5)
    have Q1 := Lib.hid (P1.out.below hb5)
    have Q2 := Lib.hid (P2.out.below hb5)
    have Q3 := Lib.hid (P3.out.below hb5)
    clear hb5 x0 x1 x2 y0 y1 y2 z0 z1 z2
    obtain ⟨x0, x1, x2⟩ := Q1.out.c
    obtain ⟨y0, y1, y2⟩ := Q2.out.c
    obtain ⟨z0, z1, z2⟩ := Q3.out.c
    go_wp2_with fail
    refine (samels_any rn rg _ _ rl w5 Q2.out.k Q3.out.k (by have := HRL.out; omega)).mono ?_
    rintro e w6 ⟨rfl, hb6⟩
    have B6 := Lib.hid (bup B5.out hb6)
    clear hb6
    go_wp2_with fail
    go_ret
    exact ⟨rfl, B6.out⟩
  have hd2 := decide_eq_false ht2
  by_cases hz1 : z < 1
  case pos =>
    have hd := decide_eq_true hz1
    clear hv
    go_wp2_with fail
    refine (HSM.out _ (Below.refl _ _)).mono ?_
    rintro e w4 ⟨rfl, hb4⟩
    have B4 := Lib.hid (bup B3.out hb4)
    have P1 := Lib.hid (X1.out.below hb4)
    have P2 := Lib.hid (X2.out.below hb4)
    have P3 := Lib.hid (V3.out.below hb4)
    clear x0 x1 x2 y0 y1 y2 z0 z1 z2
    obtain ⟨x0, x1, x2⟩ := P1.out.c
    obtain ⟨y0, y1, y2⟩ := P2.out.c
    obtain ⟨z0, z1, z2⟩ := P3.out.c
    have CV4 := Lib.hid (CV.out _ hb4)
    clear hb4
    go_wp2_with fail
    refine CV4.out.mono ?_
    rw [HD.out]
    rintro e w5 ⟨rfl, hb5⟩
    have B5 := Lib.hid (bup B4.out hb5)
    have Q1 := Lib.hid (P1.out.below hb5)
    have Q2 := Lib.hid (P2.out.below hb5)
    have Q3 := Lib.hid (P3.out.below hb5)
    clear hb5 x0 x1 x2 y0 y1 y2 z0 z1 z2
    obtain ⟨x0, x1, x2⟩ := Q1.out.c
    obtain ⟨y0, y1, y2⟩ := Q2.out.c
    obtain ⟨z0, z1, z2⟩ := Q3.out.c
    go_wp2_with fail
    refine (samels_any rn rg _ _ rl w5 Q2.out.k Q3.out.k (by have := HRL.out; omega)).mono ?_
    rintro e w6 ⟨rfl, hb6⟩
    have B6 := Lib.hid (bup B5.out hb6)
    clear hb6
    go_wp2_with fail
    go_ret
    exact ⟨rfl, B6.out⟩
  have hd3 := decide_eq_false hz1
  by_cases hz2 : 99 < z
  case pos =>
    have hd := decide_eq_true hz2
    clear hv
    go_wp2_with fail
    refine (HSM.out _ (Below.refl _ _)).mono ?_
    rintro e w4 ⟨rfl, hb4⟩
    have B4 := Lib.hid (bup B3.out hb4)
    have P1 := Lib.hid (X1.out.below hb4)
    have P2 := Lib.hid (X2.out.below hb4)
    have P3 := Lib.hid (V3.out.below hb4)
    clear x0 x1 x2 y0 y1 y2 z0 z1 z2
    obtain ⟨x0, x1, x2⟩ := P1.out.c
    obtain ⟨y0, y1, y2⟩ := P2.out.c
    obtain ⟨z0, z1, z2⟩ := P3.out.c
    have CV4 := Lib.hid (CV.out _ hb4)
    clear hb4
    go_wp2_with fail
    refine CV4.out.mono ?_
    rw [HD.out]
    rintro e w5 ⟨rfl, hb5⟩
    have B5 := Lib.hid (bup B4.out hb5)
    have Q1 := Lib.hid (P1.out.below hb5)
    have Q2 := Lib.hid (P2.out.below hb5)
    have Q3 := Lib.hid (P3.out.below hb5)
    clear hb5 x0 x1 x2 y0 y1 y2 z0 z1 z2
    obtain ⟨x0, x1, x2⟩ := Q1.out.c
    obtain ⟨y0, y1, y2⟩ := Q2.out.c
    obtain ⟨z0, z1, z2⟩ := Q3.out.c
    go_wp2_with fail
    refine (samels_any rn rg _ _ rl w5 Q2.out.k Q3.out.k (by have := HRL.out; omega)).mono ?_
    rintro e w6 ⟨rfl, hb6⟩
    have B6 := Lib.hid (bup B5.out hb6)
    clear hb6
    go_wp2_with fail
    go_ret
    exact ⟨rfl, B6.out⟩
  have hd4 := decide_eq_false hz2
  have HVV := Lib.hid (show lok (n, l, g) ∧ (0 ≤ t ∧ t ≤ 999) ∧ (1 ≤ z ∧ z ≤ 99) from ⟨hv, by omega, by omega⟩)
  clear hv
  by_cases hf : lfull (n, l, g) t
  case pos =>
    have hrb : rb = false := by
      cases rb with
      | false => rfl
      | true => exact absurd hf (lsendv_true HQ.out).2.2.2.2.2.2.2.2
    subst hrb
    obtain ⟨_, e2, e3, e4, e5⟩ := lsendv_false HQ.out HVV.out
    subst e2 e3 e4 e5
    by_cases f1 : 12 ≤ rl.length
    case pos =>
      have hg1 : decide ((12 : Int) ≤ (rl.length : Int)) = true := decide_eq_true (by omega)
      have hg2 : decide (12 ≤ rl.length) = true := decide_eq_true f1
      clear hf f1
      go_wp2_with fail
      refine (HSM.out _ (Below.refl _ _)).mono ?_
      rintro e w4 ⟨rfl, hb4⟩
      have B4 := Lib.hid (bup B3.out hb4)
      have P1 := Lib.hid (X1.out.below hb4)
      have P2 := Lib.hid (X2.out.below hb4)
      have P3 := Lib.hid (V3.out.below hb4)
      clear x0 x1 x2 y0 y1 y2 z0 z1 z2
      obtain ⟨x0, x1, x2⟩ := P1.out.c
      obtain ⟨y0, y1, y2⟩ := P2.out.c
      obtain ⟨z0, z1, z2⟩ := P3.out.c
      have CV4 := Lib.hid (CV.out _ hb4)
      clear hb4
      go_wp2_with fail
      refine CV4.out.mono ?_
      rw [HD.out]
      rintro e w5 ⟨rfl, hb5⟩
      have B5 := Lib.hid (bup B4.out hb5)
      have Q1 := Lib.hid (P1.out.below hb5)
      have Q2 := Lib.hid (P2.out.below hb5)
      have Q3 := Lib.hid (P3.out.below hb5)
      clear hb5 x0 x1 x2 y0 y1 y2 z0 z1 z2
      obtain ⟨x0, x1, x2⟩ := Q1.out.c
      obtain ⟨y0, y1, y2⟩ := Q2.out.c
      obtain ⟨z0, z1, z2⟩ := Q3.out.c
      go_wp2_with fail
      refine (samels_any _ _ _ _ rl w5 Q2.out.k Q1.out.k (by have := HL.out; omega)).mono ?_
      rintro e w6 ⟨rfl, hb6⟩
      have B6 := Lib.hid (bup B5.out hb6)
      clear hb6
      go_wp2_with fail
      go_ret
      exact ⟨rfl, B6.out⟩
    have hg1 : decide ((12 : Int) ≤ (rl.length : Int)) = false := decide_eq_false (by omega)
    have hg2 : decide (12 ≤ rl.length) = false := decide_eq_false f1
    by_cases f2 : 999 < rn
    case pos =>
      have hg3 := decide_eq_true f2
      clear hf f1 f2
      go_wp2_with fail
      refine (HSM.out _ (Below.refl _ _)).mono ?_
      rintro e w4 ⟨rfl, hb4⟩
      have B4 := Lib.hid (bup B3.out hb4)
      have P1 := Lib.hid (X1.out.below hb4)
      have P2 := Lib.hid (X2.out.below hb4)
      have P3 := Lib.hid (V3.out.below hb4)
      clear x0 x1 x2 y0 y1 y2 z0 z1 z2
      obtain ⟨x0, x1, x2⟩ := P1.out.c
      obtain ⟨y0, y1, y2⟩ := P2.out.c
      obtain ⟨z0, z1, z2⟩ := P3.out.c
      have CV4 := Lib.hid (CV.out _ hb4)
      clear hb4
      go_wp2_with fail
      refine CV4.out.mono ?_
      rw [HD.out]
      rintro e w5 ⟨rfl, hb5⟩
      have B5 := Lib.hid (bup B4.out hb5)
      have Q1 := Lib.hid (P1.out.below hb5)
      have Q2 := Lib.hid (P2.out.below hb5)
      have Q3 := Lib.hid (P3.out.below hb5)
      clear hb5 x0 x1 x2 y0 y1 y2 z0 z1 z2
      obtain ⟨x0, x1, x2⟩ := Q1.out.c
      obtain ⟨y0, y1, y2⟩ := Q2.out.c
      obtain ⟨z0, z1, z2⟩ := Q3.out.c
      go_wp2_with fail
      refine (samels_any _ _ _ _ rl w5 Q2.out.k Q1.out.k (by have := HL.out; omega)).mono ?_
      rintro e w6 ⟨rfl, hb6⟩
      have B6 := Lib.hid (bup B5.out hb6)
      clear hb6
      go_wp2_with fail
      go_ret
      exact ⟨rfl, B6.out⟩
    have hg3 := decide_eq_false f2
    have hl0 : 0 < rl.length ∧ t < (rl.getD (rl.length - 1) pkD).2.1 := by
      rcases hf with h | h | h
      · exact absurd h f2
      · exact absurd h f1
      · exact h
    obtain ⟨hl0, hlt⟩ := hl0
    have hg4 : decide ((0 : Int) < (rl.length : Int)) = true := decide_eq_true (by omega)
    have hg5 : decide (0 < rl.length) = true := decide_eq_true hl0
    obtain ⟨i, hi⟩ : ∃ i, rl.length - 1 = i := ⟨_, rfl⟩
    rw [hi] at hlt
    obtain ⟨ty, hty⟩ : ∃ ty, (rl.getD i pkD).2.1 = ty := ⟨_, rfl⟩
    rw [hty] at hlt
    have hg6 := decide_eq_true hlt
    have hwi : IntKind.i64.wrap ((rl.length : Int) - 1) = (i : Int) := by rw [IntWalk.i64_in _ (by have := HRL.out; omega)]; omega
    have hii : (i : Int) < (rl.length : Int) := by omega
    have hii' : i < rl.length := by omega
    clear hf f1 f2 hi hl0 hlt
    go_wp2_with fail
    refine (HSM.out _ (Below.refl _ _)).mono ?_
    rintro e w4 ⟨rfl, hb4⟩
    have B4 := Lib.hid (bup B3.out hb4)
    have P1 := Lib.hid (X1.out.below hb4)
    have P2 := Lib.hid (X2.out.below hb4)
    have P3 := Lib.hid (V3.out.below hb4)
    clear x0 x1 x2 y0 y1 y2 z0 z1 z2
    obtain ⟨x0, x1, x2⟩ := P1.out.c
    obtain ⟨y0, y1, y2⟩ := P2.out.c
    obtain ⟨z0, z1, z2⟩ := P3.out.c
    have CV4 := Lib.hid (CV.out _ hb4)
    clear hb4
    go_wp2_with fail
    refine CV4.out.mono ?_
    rw [HD.out]
    rintro e w5 ⟨rfl, hb5⟩
    have B5 := Lib.hid (bup B4.out hb5)
    have Q1 := Lib.hid (P1.out.below hb5)
    have Q2 := Lib.hid (P2.out.below hb5)
    have Q3 := Lib.hid (P3.out.below hb5)
    clear hb5 x0 x1 x2 y0 y1 y2 z0 z1 z2
    obtain ⟨x0, x1, x2⟩ := Q1.out.c
    obtain ⟨y0, y1, y2⟩ := Q2.out.c
    obtain ⟨z0, z1, z2⟩ := Q3.out.c
    obtain ⟨gq, oq, ha, hcell⟩ := row_time Q1.out.k hii' hty
    subst ha
    go_wp2_with fail
    refine (samels_any _ _ _ _ rl w5 Q2.out.k Q1.out.k (by have := HL.out; omega)).mono ?_
    rintro e w6 ⟨rfl, hb6⟩
    have B6 := Lib.hid (bup B5.out hb6)
    clear hb6
    go_wp2_with fail
    go_ret
    exact ⟨rfl, B6.out⟩
  have hrb : rb = true := by
    cases rb with
    | true => rfl
    | false => exact absurd (lsendv_false HQ.out HVV.out).1 hf
  subst hrb
  have f1 : ¬ 12 ≤ l.length := fun h => hf (.inr (.inl h))
  have f2 : ¬ 999 < n := fun h => hf (.inl h)
  have hg1 : decide ((12 : Int) ≤ (l.length : Int)) = false := decide_eq_false (by omega)
  have hg2 : decide (12 ≤ l.length) = false := decide_eq_false f1
  have hg3 := decide_eq_false f2
  by_cases hl0 : 0 < l.length
  case neg =>
    have hg4 : decide ((0 : Int) < (l.length : Int)) = false := decide_eq_false (by omega)
    have hg5 : decide (0 < l.length) = false := decide_eq_false hl0
    clear hf f1 f2 hl0
    go_wp2_with fail
    refine (HSM.out _ (Below.refl _ _)).mono ?_
    rintro e w4 ⟨rfl, hb4⟩
    have B4 := Lib.hid (bup B3.out hb4)
    have P1 := Lib.hid (X1.out.below hb4)
    have P2 := Lib.hid (X2.out.below hb4)
    have P3 := Lib.hid (V3.out.below hb4)
    clear x0 x1 x2 y0 y1 y2 z0 z1 z2
    obtain ⟨x0, x1, x2⟩ := P1.out.c
    obtain ⟨y0, y1, y2⟩ := P2.out.c
    obtain ⟨z0, z1, z2⟩ := P3.out.c
    have CV4 := Lib.hid (CV.out _ hb4)
    clear hb4
    go_wp2_with fail
    refine CV4.out.mono ?_
    rw [HD.out]
    rintro e w5 ⟨rfl, hb5⟩
    have B5 := Lib.hid (bup B4.out hb5)
    have Q1 := Lib.hid (P1.out.below hb5)
    have Q2 := Lib.hid (P2.out.below hb5)
    have Q3 := Lib.hid (P3.out.below hb5)
    clear hb5 x0 x1 x2 y0 y1 y2 z0 z1 z2
    obtain ⟨x0, x1, x2⟩ := Q1.out.c
    obtain ⟨y0, y1, y2⟩ := Q2.out.c
    obtain ⟨z0, z1, z2⟩ := Q3.out.c
    go_wp2_with fail
    go_ret
    exact ⟨rfl, B5.out⟩
  have hlt : ¬ t < (l.getD (l.length - 1) pkD).2.1 := fun h => hf (.inr (.inr ⟨hl0, h⟩))
  have hg4 : decide ((0 : Int) < (l.length : Int)) = true := decide_eq_true (by omega)
  have hg5 : decide (0 < l.length) = true := decide_eq_true hl0
  obtain ⟨i, hi⟩ : ∃ i, l.length - 1 = i := ⟨_, rfl⟩
  rw [hi] at hlt
  obtain ⟨ty, hty⟩ : ∃ ty, (l.getD i pkD).2.1 = ty := ⟨_, rfl⟩
  rw [hty] at hlt
  have hg6 := decide_eq_false hlt
  have hwi : IntKind.i64.wrap ((l.length : Int) - 1) = (i : Int) := by rw [IntWalk.i64_in _ (by have := HL.out; omega)]; omega
  have hii : (i : Int) < (l.length : Int) := by omega
  have hii' : i < l.length := by omega
  clear hf f1 f2 hi hl0 hlt
  go_wp2_with fail
  refine (HSM.out _ (Below.refl _ _)).mono ?_
  rintro e w4 ⟨rfl, hb4⟩
  have B4 := Lib.hid (bup B3.out hb4)
  have P1 := Lib.hid (X1.out.below hb4)
  have P2 := Lib.hid (X2.out.below hb4)
  have P3 := Lib.hid (V3.out.below hb4)
  clear x0 x1 x2 y0 y1 y2 z0 z1 z2
  obtain ⟨x0, x1, x2⟩ := P1.out.c
  obtain ⟨y0, y1, y2⟩ := P2.out.c
  obtain ⟨z0, z1, z2⟩ := P3.out.c
  have CV4 := Lib.hid (CV.out _ hb4)
  clear hb4
  go_wp2_with fail
  refine CV4.out.mono ?_
  rw [HD.out]
  rintro e w5 ⟨rfl, hb5⟩
  have B5 := Lib.hid (bup B4.out hb5)
  have Q1 := Lib.hid (P1.out.below hb5)
  have Q2 := Lib.hid (P2.out.below hb5)
  have Q3 := Lib.hid (P3.out.below hb5)
  clear hb5 x0 x1 x2 y0 y1 y2 z0 z1 z2
  obtain ⟨x0, x1, x2⟩ := Q1.out.c
  obtain ⟨y0, y1, y2⟩ := Q2.out.c
  obtain ⟨z0, z1, z2⟩ := Q3.out.c
  obtain ⟨gq, oq, ha, hcell⟩ := row_time Q1.out.k hii' hty
  subst ha
  go_wp2_with fail
  go_ret
  exact ⟨rfl, B5.out⟩

end Go.Proofs.Ytpbkhlkhnjmacaa
