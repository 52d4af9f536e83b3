/- The law FnLossAcked: the walk. -/
import Derived.Test.YtpbkhlkhnjmacaaLawLk
import Derived.Test.YtpbkhlkhnjmacaaIVm
import Derived.Deep.CutBlock
import Derived.BigQuiet
import Derived.Deep.QuietTactic
import Derived.Deep.Draws
namespace Go.Proofs.Ytpbkhlkhnjmacaa
open Go.RowKit
set_option linter.unusedVariables false
set_option linter.unusedSimpArgs false

set_option maxRecDepth 100000 in
set_option maxHeartbeats 8000000 in
theorem lossacked_walk (a : Option Addr) (len cap : Nat) (zs : List Int) (w : World) (h : IsRow .u8 w a len cap zs) :
    Calls Try.prog 7 #[.slice a len cap] w fun e w' => e = .returned (.bool true) ∧ Below w.heap.size w w' := by
  have H := Lib.hid h
  clear h
  by_cases hl : 1048576 < len
  · go_enter Try.func7, Try.ntmps7
    go_wp2
    go_ret
    exact ⟨rfl, Below.refl _ _⟩
  go_enter Try.func7, Try.ntmps7
  go_wp2_with fail
  refine (drack_any a len cap zs w H.out).mono ?_
  rintro e w1 ⟨n, g, t, d, v1, sv, l, rs, rfl, ⟨hl12, hO1, hn1, hb1⟩, hR1, hrs⟩
  have V1 := Lib.hid (SV.own (n := n) (g := g) hO1 25)
  have B1 := Lib.hid (bup hb1 (below_al w1 (.cells #[.int .i64 n, v1, .int .i64 g] 25)))
  have R1 := Lib.hid (hR1.below (below_al w1 (.cells #[.int .i64 n, v1, .int .i64 g] 25)))
  obtain ⟨a1, c1, rfl⟩ := OwnPk.shape hO1
  obtain ⟨ra, rc, rfl⟩ : ∃ ra rc, sv = .slice ra rs.length rc := by obtain ⟨ra, rc, e, _⟩ := hR1; exact ⟨ra, rc, e⟩
  have HL := Lib.hid hl12
  have HRS := Lib.hid hrs
  clear hO1 hn1 hb1 hl12 hR1 hrs
  go_upto_region 4 with fail
  generalize w1.alloc (.cells #[.int .i64 n, .slice a1 l.length c1, .int .i64 g] 25) = W1 at V1 B1 R1 ⊢
  generalize w1.heap.size = xb at V1 ⊢
  obtain ⟨⟨⟨⟨rn, rl, rg⟩, gi, li⟩, rb⟩, hq⟩ : ∃ r, lackv (n, l, g) rs t d = r := ⟨_, rfl⟩
  have HQ := Lib.hid hq
  have HLN : Hid (rl.length ≤ l.length ∧ gi.length ≤ l.length ∧ li.length ≤ l.length) := Lib.hid (lackv_len hq)
  have CI := Lib.hid (ilack_any n g t d _ _ l rs W1 V1.out.k R1.out (by have := HL.out; omega) (by have := HRS.out; omega))
  rw [hq] at CI
  obtain ⟨x0, x1, x2⟩ := V1.out.c
  go_wp2_with fail
  refine CI.out.mono ?_
  rintro e w2 ⟨v2, gv2, lv2, rfl, hO2, hG2, hL2, hb2, _⟩
  dsimp only at hO2 hG2 hL2 ⊢
  have V2 := Lib.hid (SV.own (n := rn) (g := rg) hO2 25)
  obtain ⟨a2, c2, rfl⟩ := OwnPk.shape hO2
  obtain ⟨ga2, gc2, rfl⟩ := OwnI.shape hG2
  obtain ⟨la2, lc2, rfl⟩ := OwnI.shape hL2
  have U2 := Lib.hid (bup hb2 (below_al w2 (.cells #[.int .i64 rn, .slice a2 rl.length c2, .int .i64 rg] 25)))
  have G2 := Lib.hid (hG2.ints.below (below_al w2 (.cells #[.int .i64 rn, .slice a2 rl.length c2, .int .i64 rg] 25)))
  have L2 := Lib.hid (hL2.ints.below (below_al w2 (.cells #[.int .i64 rn, .slice a2 rl.length c2, .int .i64 rg] 25)))
  have V1' := Lib.hid (V1.out.below U2.out)
  have R2 := Lib.hid (R1.out.below U2.out)
  have B2 := Lib.hid (bup B1.out U2.out)
  clear hO2 hG2 hL2 hb2 x0 x1 x2 V1 R1 CI
  go_upto_region 5 with fail
  generalize w2.alloc (.cells #[.int .i64 rn, .slice a2 rl.length c2, .int .i64 rg] 25) = W2 at V2 U2 V1' B2 G2 L2 R2 ⊢
  generalize w2.heap.size = yb at V2 ⊢
  have CS := Lib.hid (slackv_any n g t d _ _ l rs W2 V1'.out.k R2.out (by have := HL.out; omega) (by have := HRS.out; omega))
  rw [hq] at CS
  clear hq U2
  obtain ⟨x0, x1, x2⟩ := V1'.out.c
  go_wp2_with fail
  refine CS.out.mono ?_
  rintro e w3 ⟨v3, gv3, lv3, rfl, hO3, hG3, hL3, hb3, _⟩
  dsimp only at hO3 hG3 hL3 ⊢
  have V3 := Lib.hid (SV.own (n := rn) (g := rg) hO3 25)
  obtain ⟨a3, c3, rfl⟩ := OwnPk.shape hO3
  obtain ⟨ga3, gc3, rfl⟩ := OwnI.shape hG3
  obtain ⟨la3, lc3, rfl⟩ := OwnI.shape hL3
  have U3 := Lib.hid (bup hb3 (below_al w3 (.cells #[.int .i64 rn, .slice a3 rl.length c3, .int .i64 rg] 25)))
  have G3 := Lib.hid (hG3.ints.below (below_al w3 (.cells #[.int .i64 rn, .slice a3 rl.length c3, .int .i64 rg] 25)))
  have L3 := Lib.hid (hL3.ints.below (below_al w3 (.cells #[.int .i64 rn, .slice a3 rl.length c3, .int .i64 rg] 25)))
  have X1 := Lib.hid (V1'.out.below U3.out)
  have X2 := Lib.hid (V2.out.below U3.out)
  have R3 := Lib.hid (R2.out.below U3.out)
  have G2' := Lib.hid (G2.out.below U3.out)
  have L2' := Lib.hid (L2.out.below U3.out)
  have B3 := Lib.hid (bup B2.out U3.out)
  clear hO3 hG3 hL3 hb3 x0 x1 x2 V1' V2 CS B1 B2 G2 L2 R2
  go_upto_region 6 with fail
  generalize w3.alloc (.cells #[.int .i64 rn, .slice a3 rl.length c3, .int .i64 rg] 25) = W3 at V3 U3 X1 X2 B3 G3 L3 R3 G2' L2' ⊢
  generalize w3.heap.size = zb at V3 ⊢
  clear U3
  have GG : Hid (∀ W, Below W3.heap.size W3 W → Calls Try.prog 28 #[.slice ga2 gi.length gc2, .slice ga3 gi.length gc3] W (Yes W)) := Lib.hid fun W hb => (same_any _ _ gi gi W (G2'.out.below hb) (G3.out.below hb) (by have := HLN.out; have := HL.out; omega) (by have := HLN.out; have := HL.out; omega)).mono fun e w' h => by rw [beq_self_eq_true] at h; exact h
  have LL : Hid (∀ W, Below W3.heap.size W3 W → Calls Try.prog 28 #[.slice la2 li.length lc2, .slice la3 li.length lc3] W (Yes W)) := Lib.hid fun W hb => (same_any _ _ li li W (L2'.out.below hb) (L3.out.below hb) (by have := HLN.out; have := HL.out; omega) (by have := HLN.out; have := HL.out; omega)).mono fun e w' h => by rw [beq_self_eq_true] at h; exact h
  have SL : Hid (∀ W, Below W3.heap.size W3 W → Calls Try.prog 17 #[.agg #[.int .i64 rn, .slice a2 rl.length c2, .int .i64 rg], .agg #[.int .i64 rn, .slice a3 rl.length c3, .int .i64 rg]] W (Yes W)) := Lib.hid fun W hb => samels_any rn rg _ _ rl W (X2.out.below hb).k (V3.out.below hb).k (by have := HLN.out; have := HL.out; omega)
  obtain ⟨x0, x1, x2⟩ := X1.out.c
  obtain ⟨y0, y1, y2⟩ := X2.out.c
  obtain ⟨z0, z1, z2⟩ := V3.out.c
  cases rb
  case false =>
    go_wp2_with fail
    refine (SL.out _ (Below.refl _ _)).mono ?_
    rintro e wa1 ⟨rfl, hba1⟩
    have KA1 := Lib.hid (bup (Below.refl _ _) hba1)
    clear hba1
    go_wp2_with fail
    refine (GG.out _ KA1.out).mono ?_
    rintro e wb1 ⟨rfl, hbb1⟩
    have KB1 := Lib.hid (bup KA1.out hbb1)
    clear hbb1
    go_wp2_with fail
    refine (LL.out _ KB1.out).mono ?_
    rintro e wc1 ⟨rfl, hbc1⟩
    have KC1 := Lib.hid (bup KB1.out hbc1)
    clear hbc1
    clear x0 x1 x2 y0 y1 y2 z0 z1 z2
    obtain ⟨x0, x1, x2⟩ := X1.out.c.below KC1.out
    obtain ⟨y0, y1, y2⟩ := X2.out.c.below KC1.out
    obtain ⟨z0, z1, z2⟩ := V3.out.c.below KC1.out
    go_wp2_with fail
    refine (SL.out _ KC1.out).mono ?_
    rintro e wa2 ⟨rfl, hba2⟩
    have KA2 := Lib.hid (bup KC1.out hba2)
    clear hba2
    go_wp2_with fail
    refine (GG.out _ KA2.out).mono ?_
    rintro e wb2 ⟨rfl, hbb2⟩
    have KB2 := Lib.hid (bup KA2.out hbb2)
    clear hbb2
    go_wp2_with fail
    refine (LL.out _ KB2.out).mono ?_
    rintro e wc2 ⟨rfl, hbc2⟩
    have KC2 := Lib.hid (bup KB2.out hbc2)
    clear hbc2
    go_wp2_with fail
    go_ret
    exact ⟨rfl, bup B3.out KC2.out⟩
  case true =>
    obtain ⟨hk, hrn, hrl, hrg, hgi, hli⟩ := lackv_true HQ.out
    have hok := hk.1
    have hv := hk.2.1
    have HEL : Hid (∀ j, j < l.length → ∀ p1 p2 p3, l.getD j pkD = (p1, p2, p3) → decide (p1 ∈ gi) = hasR rs p1) := Lib.hid fun j hj p1 p2 p3 hp => by
      have hm : (p1, p2, p3) ∈ l := by rw [← hp, List.getD_eq_getElem?_getD, List.getElem?_eq_getElem hj]; exact List.getElem_mem hj
      have h := in_got (rs := rs) (p := (p1, p2, p3)) hok.2.2.2.2 hm
      rw [hgi] at h
      by_cases hh : p1 ∈ gi
      · rw [decide_eq_true hh]; exact (h.1 hh).symm
      · rw [decide_eq_false hh]
        cases hr : hasR rs p1 with
        | false => rfl
        | true => exact absurd (h.2 hr) hh
    have HASC : Hid (∀ i j, i < j → j < gi.length → gi.getD i 0 < gi.getD j 0) := Lib.hid fun i j hij hj => by
      rw [List.getD_eq_getElem?_getD, List.getD_eq_getElem?_getD, List.getElem?_eq_getElem (by omega), List.getElem?_eq_getElem hj]
      have hp : gi.Pairwise (· < ·) := by
        rw [← hgi]; unfold gotL
        rw [List.pairwise_map]
        exact (hok.2.2.2.2.filter _).imp fun h => h.1
      exact List.pairwise_iff_getElem.1 hp i j (by omega) hj hij
    have HRV := Lib.hid hv
    have hl13 : l.length ≤ 1000 := by have := HL.out; omega
    have hgi13 : gi.length ≤ 1000 := by have := HLN.out; have := HL.out; omega
    have hrs13 : rs.length ≤ 1000 := by have := HRS.out; omega
    clear hk hrn hrl hrg hgi hli hok hv
    go_wp2_with fail
    refine (SL.out _ (Below.refl _ _)).mono ?_
    rintro e wa1 ⟨rfl, hba1⟩
    have KA1 := Lib.hid (bup (Below.refl _ _) hba1)
    clear hba1
    go_wp2_with fail
    refine (GG.out _ KA1.out).mono ?_
    rintro e wb1 ⟨rfl, hbb1⟩
    have KB1 := Lib.hid (bup KA1.out hbb1)
    clear hbb1
    go_wp2_with fail
    refine (LL.out _ KB1.out).mono ?_
    rintro e wc1 ⟨rfl, hbc1⟩
    have KC1 := Lib.hid (bup KB1.out hbc1)
    clear hbc1
    clear x0 x1 x2 y0 y1 y2 z0 z1 z2
    obtain ⟨x0, x1, x2⟩ := X1.out.c.below KC1.out
    obtain ⟨y0, y1, y2⟩ := X2.out.c.below KC1.out
    obtain ⟨z0, z1, z2⟩ := V3.out.c.below KC1.out
    go_wp2_with fail
    clear x0 x1 x2 y0 y1 y2 z0 z1 z2
    go_loopw [15] (fun iv wr => ∃ j : Nat, j ≤ l.length ∧ iv = .int .i64 (j : Int) ∧ Hid (Below W3.heap.size W3 wr)) (fun iv _ => l.length - (intOf iv).toNat)
    case atStart => exact ⟨0, Nat.zero_le _, rfl, KC1⟩
    case round =>
      obtain ⟨j, hj, rfl, HB⟩ := hrel
      obtain ⟨x0, x1, x2⟩ := X1.out.c.below HB.out
      obtain ⟨y0, y1, y2⟩ := X2.out.c.below HB.out
      by_cases hlt : j < l.length
      case neg =>
        have hlt' : ¬ (j : Int) < (l.length : Int) := by omega
        have hdl := decide_eq_false hlt'
        go_wp2_with fail
        clear x0 x1 x2 y0 y1 y2
        go_loopw [16] (fun iv wr => ∃ i : Nat, 1 ≤ i ∧ i ≤ gi.length + 1 ∧ iv = .int .i64 (i : Int) ∧ Hid (Below W3.heap.size W3 wr)) (fun iv _ => gi.length + 1 - (intOf iv).toNat)
        case atStart => exact ⟨1, Nat.le_refl _, by omega, rfl, HB⟩
        case round =>
          obtain ⟨i, hi1, hi2, rfl, HB2⟩ := hrel
          by_cases hig : i < gi.length
          case neg =>
            have hig' : ¬ (i : Int) < (gi.length : Int) := by omega
            have hdg := decide_eq_false hig'
            go_wp2_with fail
            go_ret
            exact ⟨rfl, bup B3.out HB2.out⟩
          have hig' : (i : Int) < (gi.length : Int) := by omega
          have hdg := decide_eq_true hig'
          obtain ⟨k, hk⟩ : ∃ k, i = k + 1 := ⟨i - 1, by omega⟩
          have HLTK := Lib.hid (HASC.out k i (by omega) hig)
          obtain ⟨gg, og, hag, hcg⟩ := ints_at (G2'.out.below HB2.out) (show 0 < gi.length by omega)
          have dk := hcg k (by omega)
          have di := hcg i hig
          subst hag
          have hwk : IntKind.i64.wrap ((i : Int) - 1) = (k : Int) := by rw [IntWalk.i64_in _ (by omega)]; omega
          have hki : (k : Int) < (gi.length : Int) := by omega
          have hki' : k < gi.length := by omega
          have hwi : IntKind.i64.wrap ((i : Int) + 1) = ((i + 1 : Nat) : Int) := by rw [IntWalk.i64_in _ (by omega)]; omega
          clear hcg hk
          generalize gi.getD k 0 = xk at *
          generalize gi.getD i 0 = xi at *
          have hge : decide (xi ≤ xk) = false := decide_eq_false (by have := HLTK.out; omega)
          go_wp2_with fail
          go_quiet (fail)
          have HB4 := Lib.hid (below_drewN' HB2.out nq)
          go_wp2_with fail
          go_roundw
          case rel => exact ⟨i + 1, by omega, by omega, by go_num, HB4⟩
          case measure => simp [intOf]; omega
      have hlt' : (j : Int) < (l.length : Int) := by omega
      obtain ⟨gq, oq, ha, d0, _, _⟩ := row_at (X1.out.below HB.out).k hlt
      obtain ⟨⟨p1, p2, p3⟩, hp⟩ : ∃ p, l.getD j pkD = p := ⟨_, rfl⟩
      rw [hp] at d0
      have HEQ := Lib.hid (HEL.out j hlt p1 p2 p3 hp)
      subst ha
      simp only at d0
      obtain ⟨bh, hbh⟩ : ∃ bh, hasR rs p1 = bh := ⟨_, rfl⟩
      have CH : Hid (∀ m : Up wr, Calls Try.prog 29 #[.slice ga2 gi.length gc2, .int .i64 p1] m.w fun e w' => e = .returned (.bool bh) ∧ ∃ m' : Up wr, w' = m'.w) := Lib.hid (up_call fun W hb => (hasint_any _ gi p1 W (G2'.out.below (bup HB.out hb)) (by omega)).mono fun e w' h => by rw [HEQ.out, hbh] at h; exact h)
      have CR : Hid (∀ m : Up wr, Calls Try.prog 31 #[.slice ra rs.length rc, .int .i64 p1] m.w fun e w' => e = .returned (.bool bh) ∧ ∃ m' : Up wr, w' = m'.w) := Lib.hid (up_call fun W hb => (ihas_any _ rs p1 W (R3.out.below (bup HB.out hb)) (by omega)).mono fun e w' h => by rw [HRV.out, Bool.true_and, ← has_rhas, hbh] at h; exact h)
      have hwj : IntKind.i64.wrap ((j : Int) + 1) = ((j + 1 : Nat) : Int) := by rw [IntWalk.i64_in _ (by omega)]; omega
      clear hp hbh
      go_wp2_with fail
      have q0 := Up.cell x0
      have q1 := Up.cell x1
      have q2 := Up.cell x2
      have qd := Up.cell d0
      refine up_region wr (Below.refl _ _) (by kernel_rfl) (by kernel_rfl) ?_
      repeat (go_big_quiet_step (first | (go_at_call 29; (with_reducible exact CH.out _)) | (go_at_call 31; (with_reducible exact CR.out _))))
      refine wpQuiet_nil ?_
      rintro W5 ⟨⟨W5x, hb5⟩, hw5⟩
      have hw5' : W5 = W5x := hw5
      subst hw5'
      have B5 := Lib.hid (bup HB.out hb5)
      clear q0 q1 q2 qd hb5 hw5 x0 x1 x2 y0 y1 y2
      cases bh
      all_goals
        go_wp2_with fail
        go_roundw
        case rel => exact ⟨j + 1, hlt, by go_num, B5⟩
        case measure => simp [intOf]; omega

end Go.Proofs.Ytpbkhlkhnjmacaa
