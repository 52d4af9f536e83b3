/- The law FnLossLost: the walk. -/
import Derived.Test.YtpbkhlkhnjmacaaLawLk
import Derived.Test.YtpbkhlkhnjmacaaIVm
import Derived.Deep.CutBlock
import Derived.BigQuiet
import Derived.Deep.QuietTactic
import Derived.Deep.Draws
namespace Go.Proofs.Ytpbkhlkhnjmacaa
open Go.RowKit
set_option linter.unusedVariables false
set_option linter.unusedSimpArgs false

set_option maxRecDepth 100000 in
set_option maxHeartbeats 8000000 in
theorem losslost_walk (a : Option Addr) (len cap : Nat) (zs : List Int) (w : World) (h : IsRow .u8 w a len cap zs) :
    Calls Try.prog 8 #[.slice a len cap] w fun e w' => e = .returned (.bool true) ∧ Below w.heap.size w w' := by
  have H := Lib.hid h
  clear h
  by_cases hl : 1048576 < len
  · go_enter Try.func8, Try.ntmps8
    go_wp2
    go_ret
    exact ⟨rfl, Below.refl _ _⟩
  go_enter Try.func8, Try.ntmps8
  go_wp2_with fail
  refine (drack_any a len cap zs w H.out).mono ?_
  rintro e w1 ⟨n, g, t, d, v1, sv, l, rs, rfl, ⟨hl12, hO1, hn1, hb1⟩, hR1, hrs⟩
  have V1 := Lib.hid (SV.own (n := n) (g := g) hO1 25)
  have B1 := Lib.hid (bup hb1 (below_al w1 (.cells #[.int .i64 n, v1, .int .i64 g] 25)))
  have R1 := Lib.hid (hR1.below (below_al w1 (.cells #[.int .i64 n, v1, .int .i64 g] 25)))
  obtain ⟨a1, c1, rfl⟩ := OwnPk.shape hO1
  obtain ⟨ra, rc, rfl⟩ : ∃ ra rc, sv = .slice ra rs.length rc := by obtain ⟨ra, rc, e, _⟩ := hR1; exact ⟨ra, rc, e⟩
  have HL := Lib.hid hl12
  have HRS := Lib.hid hrs
  clear hO1 hn1 hb1 hl12 hR1 hrs
  go_upto_region 4 with fail
  generalize w1.alloc (.cells #[.int .i64 n, .slice a1 l.length c1, .int .i64 g] 25) = W1 at V1 B1 R1 ⊢
  generalize w1.heap.size = xb at V1 ⊢
  obtain ⟨⟨⟨⟨rn, rl, rg⟩, gi, li⟩, rb⟩, hq⟩ : ∃ r, lackv (n, l, g) rs t d = r := ⟨_, rfl⟩
  have HQ := Lib.hid hq
  have HLN : Hid (rl.length ≤ l.length ∧ gi.length ≤ l.length ∧ li.length ≤ l.length) := Lib.hid (lackv_len hq)
  have CI := Lib.hid (ilack_any n g t d _ _ l rs W1 V1.out.k R1.out (by have := HL.out; omega) (by have := HRS.out; omega))
  rw [hq] at CI
  obtain ⟨x0, x1, x2⟩ := V1.out.c
  go_wp2_with fail
  refine CI.out.mono ?_
  rintro e w2 ⟨v2, gv2, lv2, rfl, hO2, hG2, hL2, hb2, _⟩
  dsimp only at hO2 hG2 hL2 ⊢
  have V2 := Lib.hid (SV.own (n := rn) (g := rg) hO2 25)
  obtain ⟨a2, c2, rfl⟩ := OwnPk.shape hO2
  obtain ⟨ga2, gc2, rfl⟩ := OwnI.shape hG2
  obtain ⟨la2, lc2, rfl⟩ := OwnI.shape hL2
  have U2 := Lib.hid (bup hb2 (below_al w2 (.cells #[.int .i64 rn, .slice a2 rl.length c2, .int .i64 rg] 25)))
  have G2 := Lib.hid (hG2.ints.below (below_al w2 (.cells #[.int .i64 rn, .slice a2 rl.length c2, .int .i64 rg] 25)))
  have L2 := Lib.hid (hL2.ints.below (below_al w2 (.cells #[.int .i64 rn, .slice a2 rl.length c2, .int .i64 rg] 25)))
  have V1' := Lib.hid (V1.out.below U2.out)
  have R2 := Lib.hid (R1.out.below U2.out)
  have B2 := Lib.hid (bup B1.out U2.out)
  clear hO2 hG2 hL2 hb2 x0 x1 x2 V1 R1 CI
  go_upto_region 5 with fail
  generalize w2.alloc (.cells #[.int .i64 rn, .slice a2 rl.length c2, .int .i64 rg] 25) = W2 at V2 U2 V1' B2 G2 L2 R2 ⊢
  generalize w2.heap.size = yb at V2 ⊢
  have CS := Lib.hid (slackv_any n g t d _ _ l rs W2 V1'.out.k R2.out (by have := HL.out; omega) (by have := HRS.out; omega))
  rw [hq] at CS
  clear hq U2
  obtain ⟨x0, x1, x2⟩ := V1'.out.c
  go_wp2_with fail
  refine CS.out.mono ?_
  rintro e w3 ⟨v3, gv3, lv3, rfl, hO3, hG3, hL3, hb3, _⟩
  dsimp only at hO3 hG3 hL3 ⊢
  have V3 := Lib.hid (SV.own (n := rn) (g := rg) hO3 25)
  obtain ⟨a3, c3, rfl⟩ := OwnPk.shape hO3
  obtain ⟨ga3, gc3, rfl⟩ := OwnI.shape hG3
  obtain ⟨la3, lc3, rfl⟩ := OwnI.shape hL3
  have U3 := Lib.hid (bup hb3 (below_al w3 (.cells #[.int .i64 rn, .slice a3 rl.length c3, .int .i64 rg] 25)))
  have G3 := Lib.hid (hG3.ints.below (below_al w3 (.cells #[.int .i64 rn, .slice a3 rl.length c3, .int .i64 rg] 25)))
  have L3 := Lib.hid (hL3.ints.below (below_al w3 (.cells #[.int .i64 rn, .slice a3 rl.length c3, .int .i64 rg] 25)))
  have X1 := Lib.hid (V1'.out.below U3.out)
  have X2 := Lib.hid (V2.out.below U3.out)
  have R3 := Lib.hid (R2.out.below U3.out)
  have G2' := Lib.hid (G2.out.below U3.out)
  have L2' := Lib.hid (L2.out.below U3.out)
  have B3 := Lib.hid (bup B2.out U3.out)
  clear hO3 hG3 hL3 hb3 x0 x1 x2 V1' V2 CS B1 B2 G2 L2 R2
  go_upto_region 6 with fail
  generalize w3.alloc (.cells #[.int .i64 rn, .slice a3 rl.length c3, .int .i64 rg] 25) = W3 at V3 U3 X1 X2 B3 G3 L3 R3 G2' L2' ⊢
  generalize w3.heap.size = zb at V3 ⊢
  clear U3
  have GG : Hid (∀ W, Below W3.heap.size W3 W → Calls Try.prog 28 #[.slice ga2 gi.length gc2, .slice ga3 gi.length gc3] W (Yes W)) := Lib.hid fun W hb => (same_any _ _ gi gi W (G2'.out.below hb) (G3.out.below hb) (by have := HLN.out; have := HL.out; omega) (by have := HLN.out; have := HL.out; omega)).mono fun e w' h => by rw [beq_self_eq_true] at h; exact h
  have LL : Hid (∀ W, Below W3.heap.size W3 W → Calls Try.prog 28 #[.slice la2 li.length lc2, .slice la3 li.length lc3] W (Yes W)) := Lib.hid fun W hb => (same_any _ _ li li W (L2'.out.below hb) (L3.out.below hb) (by have := HLN.out; have := HL.out; omega) (by have := HLN.out; have := HL.out; omega)).mono fun e w' h => by rw [beq_self_eq_true] at h; exact h
  have SL : Hid (∀ W, Below W3.heap.size W3 W → Calls Try.prog 17 #[.agg #[.int .i64 rn, .slice a2 rl.length c2, .int .i64 rg], .agg #[.int .i64 rn, .slice a3 rl.length c3, .int .i64 rg]] W (Yes W)) := Lib.hid fun W hb => samels_any rn rg _ _ rl W (X2.out.below hb).k (V3.out.below hb).k (by have := HLN.out; have := HL.out; omega)
  obtain ⟨x0, x1, x2⟩ := X1.out.c
  obtain ⟨y0, y1, y2⟩ := X2.out.c
  obtain ⟨z0, z1, z2⟩ := V3.out.c
  cases rb
  case false =>
    go_wp2_with fail
    refine (SL.out _ (Below.refl _ _)).mono ?_
    rintro e wa1 ⟨rfl, hba1⟩
    have KA1 := Lib.hid (bup (Below.refl _ _) hba1)
    clear hba1
    go_wp2_with fail
    refine (GG.out _ KA1.out).mono ?_
    rintro e wb1 ⟨rfl, hbb1⟩
    have KB1 := Lib.hid (bup KA1.out hbb1)
    clear hbb1
    go_wp2_with fail
    refine (LL.out _ KB1.out).mono ?_
    rintro e wc1 ⟨rfl, hbc1⟩
    have KC1 := Lib.hid (bup KB1.out hbc1)
    clear hbc1
    clear x0 x1 x2 y0 y1 y2 z0 z1 z2
    obtain ⟨x0, x1, x2⟩ := X1.out.c.below KC1.out
    obtain ⟨y0, y1, y2⟩ := X2.out.c.below KC1.out
    obtain ⟨z0, z1, z2⟩ := V3.out.c.below KC1.out
    go_wp2_with fail
    refine (SL.out _ KC1.out).mono ?_
    rintro e wa2 ⟨rfl, hba2⟩
    have KA2 := Lib.hid (bup KC1.out hba2)
    clear hba2
    go_wp2_with fail
    refine (GG.out _ KA2.out).mono ?_
    rintro e wb2 ⟨rfl, hbb2⟩
    have KB2 := Lib.hid (bup KA2.out hbb2)
    clear hbb2
    go_wp2_with fail
    refine (LL.out _ KB2.out).mono ?_
    rintro e wc2 ⟨rfl, hbc2⟩
    have KC2 := Lib.hid (bup KB2.out hbc2)
    clear hbc2
    go_wp2_with fail
    go_ret
    exact ⟨rfl, bup B3.out KC2.out⟩
  case true =>
    obtain ⟨hk, hrn, hrl, hrg, hgi, hli⟩ := lackv_true HQ.out
    rw [hrg] at hli
    have hok := hk.1
    have HEL : Hid (∀ j, j < l.length → ∀ p1 p2 p3, l.getD j pkD = (p1, p2, p3) → (p1 ∈ li → p1 < rg ∧ (p1 ≤ rg - 3 ∨ p2 ≤ t - d)) ∧ (0 ≤ p1 ∧ p1 ≤ 1000)) := Lib.hid fun j hj p1 p2 p3 hp => by
      have hm : (p1, p2, p3) ∈ l := by rw [← hp, List.getD_eq_getElem?_getD, List.getElem?_eq_getElem hj]; exact List.getElem_mem hj
      have h2 : 0 ≤ p1 ∧ p1 ≤ n - 1 := (hok.2.2.2.1 _ hm).1
      have h3 : 0 ≤ n ∧ n ≤ 1000 := hok.1
      refine ⟨fun h => ?_, h2.1, by omega⟩
      rw [← hli] at h
      have h4 := ((in_lost (p := (p1, p2, p3)) hok.2.2.2.2 hm).1 h).2
      exact of_decide_eq_true h4
    have hrgb : -1 ≤ rg ∧ rg ≤ 1000 := by
      have h := lackok_out hk
      have e : (lack (n, l, g) rs t d).1 = (rn, rl, rg) := by unfold lack; rw [hrg] at hrl ⊢; simp only [hrl, hrn]
      rw [e] at h
      have h1 : -1 ≤ rg ∧ rg ≤ rn - 1 := h.2.1
      have h3 : 0 ≤ rn ∧ rn ≤ 1000 := h.1
      omega
    have htd := hk.2.2.2
    have hwt : IntKind.i64.wrap (t - d) = t - d := IntWalk.i64_in _ (by omega)
    have hl13 : l.length ≤ 1000 := by have := HL.out; omega
    have hli13 : li.length ≤ 1000 := by have := HLN.out; have := HL.out; omega
    clear hk hrn hrl hrg hgi hli hok htd
    go_wp2_with fail
    refine (SL.out _ (Below.refl _ _)).mono ?_
    rintro e wa1 ⟨rfl, hba1⟩
    have KA1 := Lib.hid (bup (Below.refl _ _) hba1)
    clear hba1
    go_wp2_with fail
    refine (GG.out _ KA1.out).mono ?_
    rintro e wb1 ⟨rfl, hbb1⟩
    have KB1 := Lib.hid (bup KA1.out hbb1)
    clear hbb1
    go_wp2_with fail
    refine (LL.out _ KB1.out).mono ?_
    rintro e wc1 ⟨rfl, hbc1⟩
    have KC1 := Lib.hid (bup KB1.out hbc1)
    clear hbc1
    clear x0 x1 x2 y0 y1 y2 z0 z1 z2
    obtain ⟨x0, x1, x2⟩ := X1.out.c.below KC1.out
    obtain ⟨y0, y1, y2⟩ := X2.out.c.below KC1.out
    obtain ⟨z0, z1, z2⟩ := V3.out.c.below KC1.out
    go_wp2_with fail
    clear x0 x1 x2 y0 y1 y2 z0 z1 z2
    go_loopw [15] (fun iv wr => ∃ j : Nat, j ≤ l.length ∧ iv = .int .i64 (j : Int) ∧ Hid (Below W3.heap.size W3 wr)) (fun iv _ => l.length - (intOf iv).toNat)
    case atStart => exact ⟨0, Nat.zero_le _, rfl, KC1⟩
    case round =>
      obtain ⟨j, hj, rfl, HB⟩ := hrel
      obtain ⟨x0, x1, x2⟩ := X1.out.c.below HB.out
      obtain ⟨y0, y1, y2⟩ := X2.out.c.below HB.out
      by_cases hlt : j < l.length
      case neg =>
        have hlt' : ¬ (j : Int) < (l.length : Int) := by omega
        have hdl := decide_eq_false hlt'
        go_wp2_with fail
        go_ret
        exact ⟨rfl, bup B3.out HB.out⟩
      have hlt' : (j : Int) < (l.length : Int) := by omega
      obtain ⟨gq, oq, ha, d0, d1, d2⟩ := row_at (X1.out.below HB.out).k hlt
      obtain ⟨⟨p1, p2, p3⟩, hp⟩ : ∃ p, l.getD j pkD = p := ⟨_, rfl⟩
      rw [hp] at d0 d1 d2
      obtain ⟨hin, hp0, hp9⟩ := HEL.out j hlt p1 p2 p3 hp
      have HIN := Lib.hid hin
      subst ha
      simp only at d0 d1 d2
      obtain ⟨W4, hW4⟩ : ∃ W4, wr.alloc (.cells #[.int .i64 p1, .int .i64 p2, .int .i64 p3] 36) = W4 := ⟨_, rfl⟩
      have HW4 := Lib.hid hW4
      have B4 := Lib.hid (show Below W3.heap.size W3 W4 by rw [← hW4]; exact bup HB.out (below_al _ _))
      have P4 := Lib.hid (show C3 W4 wr.heap.size (.int .i64 p1) (.int .i64 p2) (.int .i64 p3) by rw [← hW4]; exact C3.new wr _ _ _ _)
      have hw1 : IntKind.i64.wrap (rg - p1) = rg - p1 := IntWalk.i64_in _ (by omega)
      have hwj : IntKind.i64.wrap ((j : Int) + 1) = ((j + 1 : Nat) : Int) := by rw [IntWalk.i64_in _ (by omega)]; omega
      have CH := Lib.hid (hasint_any _ li p1 W4 (L2'.out.below B4.out) (by omega))
      clear hp hW4 hin
      go_upto_region 12 with fail
      rw [HW4.out]
      clear x0 x1 x2 y0 y1 y2 d0 d1 d2
      obtain ⟨d0, d1, d2⟩ := P4.out
      go_wp2_with fail
      refine CH.out.mono ?_
      by_cases hm : p1 ∈ li
      case neg =>
        rw [decide_eq_false hm]
        rintro e w5 ⟨rfl, hb5⟩
        have B5 := Lib.hid (bup B4.out hb5)
        clear hb5 hm
        go_wp2_with fail
        go_roundw
        case rel => exact ⟨j + 1, hlt, by go_num, B5⟩
        case measure => simp [intOf]; omega
      rw [decide_eq_true hm]
      have hIN := HIN.out hm
      rintro e w5 ⟨rfl, hb5⟩
      have B5 := Lib.hid (bup B4.out hb5)
      obtain ⟨y0, y1, y2⟩ := X2.out.c.below B5.out
      have P5 := Lib.hid (P4.out.below hb5)
      clear hb5 hm d0 d1 d2
      obtain ⟨d0, d1, d2⟩ := P5.out
      have hc1 : decide (rg ≤ p1) = false := decide_eq_false (by omega)
      by_cases c2 : rg - p1 < 3
      · have hc2 := decide_eq_true c2
        have hc3 : decide (t - d < p2) = false := decide_eq_false (by omega)
        clear hIN c2
        go_wp2_with fail
        go_roundw
        case rel => exact ⟨j + 1, hlt, by go_num, B5⟩
        case measure => simp [intOf]; omega
      · have hc2 := decide_eq_false c2
        clear hIN c2
        go_wp2_with fail
        go_roundw
        case rel => exact ⟨j + 1, hlt, by go_num, B5⟩
        case measure => simp [intOf]; omega

end Go.Proofs.Ytpbkhlkhnjmacaa
