/- The law FnLossPartition: the walk. -/
import Derived.Test.YtpbkhlkhnjmacaaLawLk
import Derived.Test.YtpbkhlkhnjmacaaIVm
import Derived.Test.YtpbkhlkhnjmacaaSameLs
import Derived.Deep.CutBlock
import Derived.BigQuiet
import Derived.Deep.QuietTactic
import Derived.Deep.Draws
namespace Go.Proofs.Ytpbkhlkhnjmacaa
open Go.RowKit
set_option linter.unusedVariables false
set_option linter.unusedSimpArgs false

set_option maxRecDepth 100000 in
set_option maxHeartbeats 8000000 in
theorem losspart_walk (a : Option Addr) (len cap : Nat) (zs : List Int) (w : World) (h : IsRow .u8 w a len cap zs) :
    Calls Try.prog 6 #[.slice a len cap] w fun e w' => e = .returned (.bool true) ∧ Below w.heap.size w w' := by
  have H := Lib.hid h
  clear h
  by_cases hl : 1048576 < len
  · go_enter Try.func6, Try.ntmps6
    go_wp2
    go_ret
    exact ⟨rfl, Below.refl _ _⟩
  go_enter Try.func6, Try.ntmps6
  go_wp2_with fail
  refine (drack_any a len cap zs w H.out).mono ?_
  rintro e w1 ⟨n, g, t, d, v1, sv, l, rs, rfl, ⟨hl12, hO1, hn1, hb1⟩, hR1, hrs⟩
  have V1 := Lib.hid (SV.own (n := n) (g := g) hO1 25)
  have B1 := Lib.hid (bup hb1 (below_al w1 (.cells #[.int .i64 n, v1, .int .i64 g] 25)))
  have R1 := Lib.hid (hR1.below (below_al w1 (.cells #[.int .i64 n, v1, .int .i64 g] 25)))
  obtain ⟨a1, c1, rfl⟩ := OwnPk.shape hO1
  obtain ⟨ra, rc, rfl⟩ : ∃ ra rc, sv = .slice ra rs.length rc := by obtain ⟨ra, rc, e, _⟩ := hR1; exact ⟨ra, rc, e⟩
  have HL := Lib.hid hl12
  have HRS := Lib.hid hrs
  clear hO1 hn1 hb1 hl12 hR1 hrs
  go_upto_region 4 with fail
  generalize w1.alloc (.cells #[.int .i64 n, .slice a1 l.length c1, .int .i64 g] 25) = W1 at V1 B1 R1 ⊢
  generalize w1.heap.size = xb at V1 ⊢
  obtain ⟨⟨⟨⟨rn, rl, rg⟩, gi, li⟩, rb⟩, hq⟩ : ∃ r, lackv (n, l, g) rs t d = r := ⟨_, rfl⟩
  have HQ := Lib.hid hq
  have HLN : Hid (rl.length ≤ l.length ∧ gi.length ≤ l.length ∧ li.length ≤ l.length) := Lib.hid (lackv_len hq)
  have CI := Lib.hid (ilack_any n g t d _ _ l rs W1 V1.out.k R1.out (by have := HL.out; omega) (by have := HRS.out; omega))
  rw [hq] at CI
  obtain ⟨x0, x1, x2⟩ := V1.out.c
  go_wp2_with fail
  refine CI.out.mono ?_
  rintro e w2 ⟨v2, gv2, lv2, rfl, hO2, hG2, hL2, hb2, _⟩
  dsimp only at hO2 hG2 hL2 ⊢
  have V2 := Lib.hid (SV.own (n := rn) (g := rg) hO2 25)
  obtain ⟨a2, c2, rfl⟩ := OwnPk.shape hO2
  obtain ⟨ga2, gc2, rfl⟩ := OwnI.shape hG2
  obtain ⟨la2, lc2, rfl⟩ := OwnI.shape hL2
  have U2 := Lib.hid (bup hb2 (below_al w2 (.cells #[.int .i64 rn, .slice a2 rl.length c2, .int .i64 rg] 25)))
  have G2 := Lib.hid (hG2.ints.below (below_al w2 (.cells #[.int .i64 rn, .slice a2 rl.length c2, .int .i64 rg] 25)))
  have L2 := Lib.hid (hL2.ints.below (below_al w2 (.cells #[.int .i64 rn, .slice a2 rl.length c2, .int .i64 rg] 25)))
  have V1' := Lib.hid (V1.out.below U2.out)
  have R2 := Lib.hid (R1.out.below U2.out)
  have B2 := Lib.hid (bup B1.out U2.out)
  clear hO2 hG2 hL2 hb2 x0 x1 x2 V1 R1 CI
  go_upto_region 5 with fail
  generalize w2.alloc (.cells #[.int .i64 rn, .slice a2 rl.length c2, .int .i64 rg] 25) = W2 at V2 U2 V1' B2 G2 L2 R2 ⊢
  generalize w2.heap.size = yb at V2 ⊢
  have CS := Lib.hid (slackv_any n g t d _ _ l rs W2 V1'.out.k R2.out (by have := HL.out; omega) (by have := HRS.out; omega))
  rw [hq] at CS
  clear hq U2
  obtain ⟨x0, x1, x2⟩ := V1'.out.c
  go_wp2_with fail
  refine CS.out.mono ?_
  rintro e w3 ⟨v3, gv3, lv3, rfl, hO3, hG3, hL3, hb3, _⟩
  dsimp only at hO3 hG3 hL3 ⊢
  have V3 := Lib.hid (SV.own (n := rn) (g := rg) hO3 25)
  obtain ⟨a3, c3, rfl⟩ := OwnPk.shape hO3
  obtain ⟨ga3, gc3, rfl⟩ := OwnI.shape hG3
  obtain ⟨la3, lc3, rfl⟩ := OwnI.shape hL3
  have U3 := Lib.hid (bup hb3 (below_al w3 (.cells #[.int .i64 rn, .slice a3 rl.length c3, .int .i64 rg] 25)))
  have G3 := Lib.hid (hG3.ints.below (below_al w3 (.cells #[.int .i64 rn, .slice a3 rl.length c3, .int .i64 rg] 25)))
  have L3 := Lib.hid (hL3.ints.below (below_al w3 (.cells #[.int .i64 rn, .slice a3 rl.length c3, .int .i64 rg] 25)))
  have X1 := Lib.hid (V1'.out.below U3.out)
  have X2 := Lib.hid (V2.out.below U3.out)
  have R3 := Lib.hid (R2.out.below U3.out)
  have G2' := Lib.hid (G2.out.below U3.out)
  have L2' := Lib.hid (L2.out.below U3.out)
  have B3 := Lib.hid (bup B2.out U3.out)
  clear hO3 hG3 hL3 hb3 x0 x1 x2 V1' V2 CS B1 B2 G2 L2 R2
  go_upto_region 6 with fail
  generalize w3.alloc (.cells #[.int .i64 rn, .slice a3 rl.length c3, .int .i64 rg] 25) = W3 at V3 U3 X1 X2 B3 G3 L3 R3 G2' L2' ⊢
  generalize w3.heap.size = zb at V3 ⊢
  clear U3
  have GG : Hid (∀ W, Below W3.heap.size W3 W → Calls Try.prog 28 #[.slice ga2 gi.length gc2, .slice ga3 gi.length gc3] W (Yes W)) := Lib.hid fun W hb => (same_any _ _ gi gi W (G2'.out.below hb) (G3.out.below hb) (by have := HLN.out; have := HL.out; omega) (by have := HLN.out; have := HL.out; omega)).mono fun e w' h => by rw [beq_self_eq_true] at h; exact h
  have LL : Hid (∀ W, Below W3.heap.size W3 W → Calls Try.prog 28 #[.slice la2 li.length lc2, .slice la3 li.length lc3] W (Yes W)) := Lib.hid fun W hb => (same_any _ _ li li W (L2'.out.below hb) (L3.out.below hb) (by have := HLN.out; have := HL.out; omega) (by have := HLN.out; have := HL.out; omega)).mono fun e w' h => by rw [beq_self_eq_true] at h; exact h
  have SL : Hid (∀ W, Below W3.heap.size W3 W → Calls Try.prog 17 #[.agg #[.int .i64 rn, .slice a2 rl.length c2, .int .i64 rg], .agg #[.int .i64 rn, .slice a3 rl.length c3, .int .i64 rg]] W (Yes W)) := Lib.hid fun W hb => samels_any rn rg _ _ rl W (X2.out.below hb).k (V3.out.below hb).k (by have := HLN.out; have := HL.out; omega)
  obtain ⟨x0, x1, x2⟩ := X1.out.c
  obtain ⟨y0, y1, y2⟩ := X2.out.c
  obtain ⟨z0, z1, z2⟩ := V3.out.c
  cases rb
  case false =>
    go_wp2_with fail
    refine (SL.out _ (Below.refl _ _)).mono ?_
    rintro e wa1 ⟨rfl, hba1⟩
    have KA1 := Lib.hid (bup (Below.refl _ _) hba1)
    clear hba1
    go_wp2_with fail
    refine (GG.out _ KA1.out).mono ?_
    rintro e wb1 ⟨rfl, hbb1⟩
    have KB1 := Lib.hid (bup KA1.out hbb1)
    clear hbb1
    go_wp2_with fail
    refine (LL.out _ KB1.out).mono ?_
    rintro e wc1 ⟨rfl, hbc1⟩
    have KC1 := Lib.hid (bup KB1.out hbc1)
    clear hbc1
    clear x0 x1 x2 y0 y1 y2 z0 z1 z2
    obtain ⟨x0, x1, x2⟩ := X1.out.c.below KC1.out
    obtain ⟨y0, y1, y2⟩ := X2.out.c.below KC1.out
    obtain ⟨z0, z1, z2⟩ := V3.out.c.below KC1.out
    go_wp2_with fail
    refine (SL.out _ KC1.out).mono ?_
    rintro e wa2 ⟨rfl, hba2⟩
    have KA2 := Lib.hid (bup KC1.out hba2)
    clear hba2
    go_wp2_with fail
    refine (GG.out _ KA2.out).mono ?_
    rintro e wb2 ⟨rfl, hbb2⟩
    have KB2 := Lib.hid (bup KA2.out hbb2)
    clear hbb2
    go_wp2_with fail
    refine (LL.out _ KB2.out).mono ?_
    rintro e wc2 ⟨rfl, hbc2⟩
    have KC2 := Lib.hid (bup KB2.out hbc2)
    clear hbc2
    go_wp2_with fail
    go_ret
    exact ⟨rfl, bup B3.out KC2.out⟩
  case true =>
    obtain ⟨hk, hrn, hrl, hrg, hgi, hli⟩ := lackv_true HQ.out
    have hok := hk.1
    have HEL : Hid (∀ j, j < l.length → ∀ p1 p2 p3, l.getD j pkD = (p1, p2, p3) → (decide (p1 ∈ gi) = true ∧ decide (p1 ∈ li) = false ∧ decide (p1 ∈ rl.map (·.1)) = false) ∨ (decide (p1 ∈ gi) = false ∧ decide (p1 ∈ li) = true ∧ decide (p1 ∈ rl.map (·.1)) = false) ∨ (decide (p1 ∈ gi) = false ∧ decide (p1 ∈ li) = false ∧ decide (p1 ∈ rl.map (·.1)) = true)) := Lib.hid fun j hj p1 p2 p3 hp => by
      have hm : (p1, p2, p3) ∈ l := by rw [← hp, List.getD_eq_getElem?_getD, List.getElem?_eq_getElem hj]; exact List.getElem_mem hj
      have h1 := in_got (rs := rs) (p := (p1, p2, p3)) hok.2.2.2.2 hm
      have h2 := in_lost (rs := rs) (top := topR g rs) (t := t) (d := d) (p := (p1, p2, p3)) hok.2.2.2.2 hm
      have h3 := in_kept (rs := rs) (top := topR g rs) (t := t) (d := d) (p := (p1, p2, p3)) hok.2.2.2.2 hm
      rw [hgi] at h1
      rw [hli] at h2
      rw [hrl] at h3
      simp only at h1 h2 h3
      cases hr : hasR rs p1 with
      | true => exact .inl ⟨decide_eq_true (h1.2 hr), decide_eq_false (fun h => by rw [(h2.1 h).1] at hr; cases hr), decide_eq_false (fun h => by rw [(h3.1 h).1] at hr; cases hr)⟩
      | false =>
        have hng : p1 ∉ gi := fun h => by rw [h1.1 h] at hr; cases hr
        cases hs : isLost (topR g rs) t d (p1, p2, p3) with
        | true => exact .inr (.inl ⟨decide_eq_false hng, decide_eq_true (h2.2 ⟨hr, hs⟩), decide_eq_false (fun h => by rw [(h3.1 h).2] at hs; cases hs)⟩)
        | false => exact .inr (.inr ⟨decide_eq_false hng, decide_eq_false (fun h => by rw [(h2.1 h).2] at hs; cases hs), decide_eq_true (h3.2 ⟨hr, hs⟩)⟩)
    have hsum : gi.length + li.length + rl.length = l.length := by
      have h := lack_len (n, l, g) rs t d
      unfold lack at h
      simp only [hgi, hli, hrl] at h
      exact h
    have hws1 : IntKind.i64.wrap ((gi.length : Int) + (li.length : Int)) = (gi.length : Int) + (li.length : Int) := IntWalk.i64_in _ (by have := HLN.out; have := HL.out; omega)
    have hws2 : IntKind.i64.wrap ((gi.length : Int) + (li.length : Int) + (rl.length : Int)) = (gi.length : Int) + (li.length : Int) + (rl.length : Int) := IntWalk.i64_in _ (by have := HLN.out; have := HL.out; omega)
    have hse : ((gi.length : Int) + (li.length : Int) + (rl.length : Int) == (l.length : Int)) = true := by rw [beq_iff_eq]; omega
    have hl13 : l.length ≤ 1000 := by have := HL.out; omega
    have hgi13 : gi.length ≤ 1000 := by have := HLN.out; have := HL.out; omega
    have hli13 : li.length ≤ 1000 := by have := HLN.out; have := HL.out; omega
    have hrl13 : rl.length ≤ 1000 := by have := HLN.out; have := HL.out; omega
    clear hk hrn hrl hrg hgi hli hok hsum
    go_wp2_with fail
    refine (SL.out _ (Below.refl _ _)).mono ?_
    rintro e wa1 ⟨rfl, hba1⟩
    have KA1 := Lib.hid (bup (Below.refl _ _) hba1)
    clear hba1
    go_wp2_with fail
    refine (GG.out _ KA1.out).mono ?_
    rintro e wb1 ⟨rfl, hbb1⟩
    have KB1 := Lib.hid (bup KA1.out hbb1)
    clear hbb1
    go_wp2_with fail
    refine (LL.out _ KB1.out).mono ?_
    rintro e wc1 ⟨rfl, hbc1⟩
    have KC1 := Lib.hid (bup KB1.out hbc1)
    clear hbc1
    clear x0 x1 x2 y0 y1 y2 z0 z1 z2
    obtain ⟨x0, x1, x2⟩ := X1.out.c.below KC1.out
    obtain ⟨y0, y1, y2⟩ := X2.out.c.below KC1.out
    obtain ⟨z0, z1, z2⟩ := V3.out.c.below KC1.out
    go_wp2_with fail
    clear x0 x1 x2 y0 y1 y2 z0 z1 z2
    go_loopw [15] (fun iv wr => ∃ j : Nat, j ≤ l.length ∧ iv = .int .i64 (j : Int) ∧ Hid (Below W3.heap.size W3 wr)) (fun iv _ => l.length - (intOf iv).toNat)
    case atStart => exact ⟨0, Nat.zero_le _, rfl, KC1⟩
    case round =>
      obtain ⟨j, hj, rfl, HB⟩ := hrel
      obtain ⟨x0, x1, x2⟩ := X1.out.c.below HB.out
      obtain ⟨y0, y1, y2⟩ := X2.out.c.below HB.out
      by_cases hlt : j < l.length
      case neg =>
        have hlt' : ¬ (j : Int) < (l.length : Int) := by omega
        have hdl := decide_eq_false hlt'
        go_wp2_with fail
        go_ret
        exact ⟨rfl, bup B3.out HB.out⟩
      have hlt' : (j : Int) < (l.length : Int) := by omega
      obtain ⟨gq, oq, ha, d0, _, _⟩ := row_at (X1.out.below HB.out).k hlt
      obtain ⟨⟨p1, p2, p3⟩, hp⟩ : ∃ p, l.getD j pkD = p := ⟨_, rfl⟩
      rw [hp] at d0
      have HC3 := Lib.hid (HEL.out j hlt p1 p2 p3 hp)
      subst ha
      simp only at d0
      have hwj : IntKind.i64.wrap ((j : Int) + 1) = ((j + 1 : Nat) : Int) := by rw [IntWalk.i64_in _ (by omega)]; omega
      have CG := Lib.hid (hasint_any _ gi p1 wr (G2'.out.below HB.out) (by omega))
      clear hp
      rcases HC3.out with ⟨HEG, HELo, HEK⟩ | ⟨HEG, HELo, HEK⟩ | ⟨HEG, HELo, HEK⟩
      · go_wp2_with fail
        refine CG.out.mono ?_
        rw [HEG]
        rintro e w5 ⟨rfl, hb5⟩
        have B5 := Lib.hid (bup HB.out hb5)
        have CL := Lib.hid (hasint_any _ li p1 w5 (L2'.out.below B5.out) (by omega))
        have d5 := (hb5.cell (World.block_lt_of_cell? wr _ d0)).trans d0
        clear x0 x1 x2 y0 y1 y2 d0 hb5
        obtain ⟨x0, x1, x2⟩ := X1.out.c.below B5.out
        go_wp2_with fail
        refine CL.out.mono ?_
        rw [HELo]
        rintro e w6 ⟨rfl, hb6⟩
        have B6 := Lib.hid (bup B5.out hb6)
        have d6 := (hb6.cell (World.block_lt_of_cell? w5 _ d5)).trans d5
        have CK : Hid (∀ m : Up w6, Calls Try.prog 30 #[.agg #[.int .i64 rn, .slice a2 rl.length c2, .int .i64 rg], .int .i64 p1] m.w fun e w' => e = .returned (.bool false) ∧ ∃ m' : Up w6, w' = m'.w) := Lib.hid (up_call fun W hb => (infl_any rn rg p1 _ rl W (X2.out.below (bup B6.out hb)).k (by omega)).mono fun e w' h => by rw [HEK] at h; exact h)
        clear x0 x1 x2 d5 hb6 HEG HELo HEK
        obtain ⟨x0, x1, x2⟩ := X1.out.c.below B6.out
        obtain ⟨y0, y1, y2⟩ := X2.out.c.below B6.out
        go_wp2_with fail
        have q0 := Up.cell x0
        have q1 := Up.cell x1
        have q2 := Up.cell x2
        have r0 := Up.cell y0
        have r1 := Up.cell y1
        have r2 := Up.cell y2
        have qd := Up.cell d6
        refine up_region w6 (Below.refl _ _) (by kernel_rfl) (by kernel_rfl) ?_
        repeat (go_big_quiet_step (first | (go_at_call 30; (with_reducible exact CK.out _))))
        refine wpQuiet_nil ?_
        rintro W7 ⟨⟨W7x, hb7⟩, hw7⟩
        have hw7' : W7 = W7x := hw7
        subst hw7'
        have B7 := Lib.hid (bup B6.out hb7)
        clear q0 q1 q2 r0 r1 r2 qd hb7 hw7 x0 x1 x2 y0 y1 y2
        go_wp2_with fail
        go_roundw
        case rel => exact ⟨j + 1, hlt, by go_num, B7⟩
        case measure => simp [intOf]; omega
      · go_wp2_with fail
        refine CG.out.mono ?_
        rw [HEG]
        rintro e w5 ⟨rfl, hb5⟩
        have B5 := Lib.hid (bup HB.out hb5)
        have CL := Lib.hid (hasint_any _ li p1 w5 (L2'.out.below B5.out) (by omega))
        have d5 := (hb5.cell (World.block_lt_of_cell? wr _ d0)).trans d0
        clear x0 x1 x2 y0 y1 y2 d0 hb5
        obtain ⟨x0, x1, x2⟩ := X1.out.c.below B5.out
        go_wp2_with fail
        refine CL.out.mono ?_
        rw [HELo]
        rintro e w6 ⟨rfl, hb6⟩
        have B6 := Lib.hid (bup B5.out hb6)
        have d6 := (hb6.cell (World.block_lt_of_cell? w5 _ d5)).trans d5
        have CK : Hid (∀ m : Up w6, Calls Try.prog 30 #[.agg #[.int .i64 rn, .slice a2 rl.length c2, .int .i64 rg], .int .i64 p1] m.w fun e w' => e = .returned (.bool false) ∧ ∃ m' : Up w6, w' = m'.w) := Lib.hid (up_call fun W hb => (infl_any rn rg p1 _ rl W (X2.out.below (bup B6.out hb)).k (by omega)).mono fun e w' h => by rw [HEK] at h; exact h)
        clear x0 x1 x2 d5 hb6 HEG HELo HEK
        obtain ⟨x0, x1, x2⟩ := X1.out.c.below B6.out
        obtain ⟨y0, y1, y2⟩ := X2.out.c.below B6.out
        go_wp2_with fail
        have q0 := Up.cell x0
        have q1 := Up.cell x1
        have q2 := Up.cell x2
        have r0 := Up.cell y0
        have r1 := Up.cell y1
        have r2 := Up.cell y2
        have qd := Up.cell d6
        refine up_region w6 (Below.refl _ _) (by kernel_rfl) (by kernel_rfl) ?_
        repeat (go_big_quiet_step (first | (go_at_call 30; (with_reducible exact CK.out _))))
        refine wpQuiet_nil ?_
        rintro W7 ⟨⟨W7x, hb7⟩, hw7⟩
        have hw7' : W7 = W7x := hw7
        subst hw7'
        have B7 := Lib.hid (bup B6.out hb7)
        clear q0 q1 q2 r0 r1 r2 qd hb7 hw7 x0 x1 x2 y0 y1 y2
        go_wp2_with fail
        go_roundw
        case rel => exact ⟨j + 1, hlt, by go_num, B7⟩
        case measure => simp [intOf]; omega
      · go_wp2_with fail
        refine CG.out.mono ?_
        rw [HEG]
        rintro e w5 ⟨rfl, hb5⟩
        have B5 := Lib.hid (bup HB.out hb5)
        have CL := Lib.hid (hasint_any _ li p1 w5 (L2'.out.below B5.out) (by omega))
        have d5 := (hb5.cell (World.block_lt_of_cell? wr _ d0)).trans d0
        clear x0 x1 x2 y0 y1 y2 d0 hb5
        obtain ⟨x0, x1, x2⟩ := X1.out.c.below B5.out
        go_wp2_with fail
        refine CL.out.mono ?_
        rw [HELo]
        rintro e w6 ⟨rfl, hb6⟩
        have B6 := Lib.hid (bup B5.out hb6)
        have d6 := (hb6.cell (World.block_lt_of_cell? w5 _ d5)).trans d5
        have CK : Hid (∀ m : Up w6, Calls Try.prog 30 #[.agg #[.int .i64 rn, .slice a2 rl.length c2, .int .i64 rg], .int .i64 p1] m.w fun e w' => e = .returned (.bool true) ∧ ∃ m' : Up w6, w' = m'.w) := Lib.hid (up_call fun W hb => (infl_any rn rg p1 _ rl W (X2.out.below (bup B6.out hb)).k (by omega)).mono fun e w' h => by rw [HEK] at h; exact h)
        clear x0 x1 x2 d5 hb6 HEG HELo HEK
        obtain ⟨x0, x1, x2⟩ := X1.out.c.below B6.out
        obtain ⟨y0, y1, y2⟩ := X2.out.c.below B6.out
        go_wp2_with fail
        have q0 := Up.cell x0
        have q1 := Up.cell x1
        have q2 := Up.cell x2
        have r0 := Up.cell y0
        have r1 := Up.cell y1
        have r2 := Up.cell y2
        have qd := Up.cell d6
        refine up_region w6 (Below.refl _ _) (by kernel_rfl) (by kernel_rfl) ?_
        repeat (go_big_quiet_step (first | (go_at_call 30; (with_reducible exact CK.out _))))
        refine wpQuiet_nil ?_
        rintro W7 ⟨⟨W7x, hb7⟩, hw7⟩
        have hw7' : W7 = W7x := hw7
        subst hw7'
        have B7 := Lib.hid (bup B6.out hb7)
        clear q0 q1 q2 r0 r1 r2 qd hb7 hw7 x0 x1 x2 y0 y1 y2
        go_wp2_with fail
        go_roundw
        case rel => exact ⟨j + 1, hlt, by go_num, B7⟩
        case measure => simp [intOf]; omega

end Go.Proofs.Ytpbkhlkhnjmacaa
