/- The law FnLossBytes: the walk. -/
import Derived.Test.YtpbkhlkhnjmacaaLawLk
import Derived.Test.YtpbkhlkhnjmacaaIVm
import Derived.Test.YtpbkhlkhnjmacaaSameLs
import Derived.Test.YtpbkhlkhnjmacaaLawLs
import Derived.Test.YtpbkhlkhnjmacaaIVb
import Derived.Deep.CutBlock
import Derived.BigQuiet
import Derived.Deep.QuietTactic
import Derived.Deep.Draws
namespace Go.Proofs.Ytpbkhlkhnjmacaa
open Go.RowKit
set_option linter.unusedVariables false
set_option linter.unusedSimpArgs false

set_option maxRecDepth 100000 in
set_option maxHeartbeats 8000000 in
theorem lossbytes_walk (a : Option Addr) (len cap : Nat) (zs : List Int) (w : World) (h : IsRow .u8 w a len cap zs) :
    Calls Try.prog 13 #[.slice a len cap] w fun e w' => e = .returned (.bool true) ∧ Below w.heap.size w w' := by
  have H := Lib.hid h
  clear h
  by_cases hl : 1048576 < len
  · go_enter Try.func13, Try.ntmps13
    go_wp2
    go_ret
    exact ⟨rfl, Below.refl _ _⟩
  go_enter Try.func13, Try.ntmps13
  go_wp2_with fail
  refine (drack_any a len cap zs w H.out).mono ?_
  rintro e w1 ⟨n, g, t, d, v1, sv, l, rs, rfl, ⟨hl12, hO1, hn1, hb1⟩, hR1, hrs⟩
  have V1 := Lib.hid (SV.own (n := n) (g := g) hO1 25)
  have B1 := Lib.hid (bup hb1 (below_al w1 (.cells #[.int .i64 n, v1, .int .i64 g] 25)))
  have R1 := Lib.hid (hR1.below (below_al w1 (.cells #[.int .i64 n, v1, .int .i64 g] 25)))
  obtain ⟨a1, c1, rfl⟩ := OwnPk.shape hO1
  obtain ⟨ra, rc, rfl⟩ : ∃ ra rc, sv = .slice ra rs.length rc := by obtain ⟨ra, rc, e, _⟩ := hR1; exact ⟨ra, rc, e⟩
  have HL := Lib.hid hl12
  have HRS := Lib.hid hrs
  clear hO1 hn1 hb1 hl12 hR1 hrs
  go_upto_region 4 with fail
  generalize w1.alloc (.cells #[.int .i64 n, .slice a1 l.length c1, .int .i64 g] 25) = W1 at V1 B1 R1 ⊢
  generalize w1.heap.size = xb at V1 ⊢
  obtain ⟨⟨⟨⟨rn, rl, rg⟩, gi, li⟩, rb⟩, hq⟩ : ∃ r, lackv (n, l, g) rs t d = r := ⟨_, rfl⟩
  have HQ := Lib.hid hq
  have HLN : Hid (rl.length ≤ l.length ∧ gi.length ≤ l.length ∧ li.length ≤ l.length) := Lib.hid (lackv_len hq)
  have CI := Lib.hid (ilack_any n g t d _ _ l rs W1 V1.out.k R1.out (by have := HL.out; omega) (by have := HRS.out; omega))
  rw [hq] at CI
  obtain ⟨x0, x1, x2⟩ := V1.out.c
  go_wp2_with fail
  refine CI.out.mono ?_
  rintro e w2 ⟨v2, gv2, lv2, rfl, hO2, hG2, hL2, hb2, _⟩
  dsimp only at hO2 hG2 hL2 ⊢
  have V2 := Lib.hid (SV.own (n := rn) (g := rg) hO2 25)
  obtain ⟨a2, c2, rfl⟩ := OwnPk.shape hO2
  obtain ⟨ga2, gc2, rfl⟩ := OwnI.shape hG2
  obtain ⟨la2, lc2, rfl⟩ := OwnI.shape hL2
  have U2 := Lib.hid (bup hb2 (below_al w2 (.cells #[.int .i64 rn, .slice a2 rl.length c2, .int .i64 rg] 25)))
  have G2 := Lib.hid (hG2.ints.below (below_al w2 (.cells #[.int .i64 rn, .slice a2 rl.length c2, .int .i64 rg] 25)))
  have L2 := Lib.hid (hL2.ints.below (below_al w2 (.cells #[.int .i64 rn, .slice a2 rl.length c2, .int .i64 rg] 25)))
  have V1' := Lib.hid (V1.out.below U2.out)
  have R2 := Lib.hid (R1.out.below U2.out)
  have B2 := Lib.hid (bup B1.out U2.out)
  clear hO2 hG2 hL2 hb2 x0 x1 x2 V1 R1 CI
  go_upto_region 5 with fail
  generalize w2.alloc (.cells #[.int .i64 rn, .slice a2 rl.length c2, .int .i64 rg] 25) = W2 at V2 U2 V1' B2 G2 L2 R2 ⊢
  generalize w2.heap.size = yb at V2 ⊢
  have CS := Lib.hid (slackv_any n g t d _ _ l rs W2 V1'.out.k R2.out (by have := HL.out; omega) (by have := HRS.out; omega))
  rw [hq] at CS
  clear hq U2
  obtain ⟨x0, x1, x2⟩ := V1'.out.c
  go_wp2_with fail
  refine CS.out.mono ?_
  rintro e w3 ⟨v3, gv3, lv3, rfl, hO3, hG3, hL3, hb3, _⟩
  dsimp only at hO3 hG3 hL3 ⊢
  have V3 := Lib.hid (SV.own (n := rn) (g := rg) hO3 25)
  obtain ⟨a3, c3, rfl⟩ := OwnPk.shape hO3
  obtain ⟨ga3, gc3, rfl⟩ := OwnI.shape hG3
  obtain ⟨la3, lc3, rfl⟩ := OwnI.shape hL3
  have U3 := Lib.hid (bup hb3 (below_al w3 (.cells #[.int .i64 rn, .slice a3 rl.length c3, .int .i64 rg] 25)))
  have G3 := Lib.hid (hG3.ints.below (below_al w3 (.cells #[.int .i64 rn, .slice a3 rl.length c3, .int .i64 rg] 25)))
  have L3 := Lib.hid (hL3.ints.below (below_al w3 (.cells #[.int .i64 rn, .slice a3 rl.length c3, .int .i64 rg] 25)))
  have X1 := Lib.hid (V1'.out.below U3.out)
  have X2 := Lib.hid (V2.out.below U3.out)
  have R3 := Lib.hid (R2.out.below U3.out)
  have G2' := Lib.hid (G2.out.below U3.out)
  have L2' := Lib.hid (L2.out.below U3.out)
  have B3 := Lib.hid (bup B2.out U3.out)
  clear hO3 hG3 hL3 hb3 x0 x1 x2 V1' V2 CS B1 B2 G2 L2 R2
  go_upto_region 6 with fail
  generalize w3.alloc (.cells #[.int .i64 rn, .slice a3 rl.length c3, .int .i64 rg] 25) = W3 at V3 U3 X1 X2 B3 G3 L3 R3 G2' L2' ⊢
  generalize w3.heap.size = zb at V3 ⊢
  clear U3
  have GG : Hid (∀ W, Below W3.heap.size W3 W → Calls Try.prog 28 #[.slice ga2 gi.length gc2, .slice ga3 gi.length gc3] W (Yes W)) := Lib.hid fun W hb => (same_any _ _ gi gi W (G2'.out.below hb) (G3.out.below hb) (by have := HLN.out; have := HL.out; omega) (by have := HLN.out; have := HL.out; omega)).mono fun e w' h => by rw [beq_self_eq_true] at h; exact h
  have LL : Hid (∀ W, Below W3.heap.size W3 W → Calls Try.prog 28 #[.slice la2 li.length lc2, .slice la3 li.length lc3] W (Yes W)) := Lib.hid fun W hb => (same_any _ _ li li W (L2'.out.below hb) (L3.out.below hb) (by have := HLN.out; have := HL.out; omega) (by have := HLN.out; have := HL.out; omega)).mono fun e w' h => by rw [beq_self_eq_true] at h; exact h
  have SL : Hid (∀ W, Below W3.heap.size W3 W → Calls Try.prog 17 #[.agg #[.int .i64 rn, .slice a2 rl.length c2, .int .i64 rg], .agg #[.int .i64 rn, .slice a3 rl.length c3, .int .i64 rg]] W (Yes W)) := Lib.hid fun W hb => samels_any rn rg _ _ rl W (X2.out.below hb).k (V3.out.below hb).k (by have := HLN.out; have := HL.out; omega)
  obtain ⟨x0, x1, x2⟩ := X1.out.c
  obtain ⟨y0, y1, y2⟩ := X2.out.c
  obtain ⟨z0, z1, z2⟩ := V3.out.c
  cases rb
  case false =>
    go_wp2_with fail
    refine (SL.out _ (Below.refl _ _)).mono ?_
    rintro e wa1 ⟨rfl, hba1⟩
    have KA1 := Lib.hid (bup (Below.refl _ _) hba1)
    clear hba1
    go_wp2_with fail
    refine (GG.out _ KA1.out).mono ?_
    rintro e wb1 ⟨rfl, hbb1⟩
    have KB1 := Lib.hid (bup KA1.out hbb1)
    clear hbb1
    go_wp2_with fail
    refine (LL.out _ KB1.out).mono ?_
    rintro e wc1 ⟨rfl, hbc1⟩
    have KC1 := Lib.hid (bup KB1.out hbc1)
    clear hbc1
    clear x0 x1 x2 y0 y1 y2 z0 z1 z2
    obtain ⟨x0, x1, x2⟩ := X1.out.c.below KC1.out
    obtain ⟨y0, y1, y2⟩ := X2.out.c.below KC1.out
    obtain ⟨z0, z1, z2⟩ := V3.out.c.below KC1.out
    go_wp2_with fail
    refine (SL.out _ KC1.out).mono ?_
    rintro e wa2 ⟨rfl, hba2⟩
    have KA2 := Lib.hid (bup KC1.out hba2)
    clear hba2
    go_wp2_with fail
    refine (GG.out _ KA2.out).mono ?_
    rintro e wb2 ⟨rfl, hbb2⟩
    have KB2 := Lib.hid (bup KA2.out hbb2)
    clear hbb2
    go_wp2_with fail
    refine (LL.out _ KB2.out).mono ?_
    rintro e wc2 ⟨rfl, hbc2⟩
    have KC2 := Lib.hid (bup KB2.out hbc2)
    clear hbc2
    go_wp2_with fail
    go_ret
    exact ⟨rfl, bup B3.out KC2.out⟩
  case true =>
    obtain ⟨hk, hrn, hrl, hrg, hgi, hli⟩ := lackv_true HQ.out
    have hok := hk.1
    have hok2 : lok (rn, rl, rg) := by
      have h := lackok_out hk
      have e : (lack (n, l, g) rs t d).1 = (rn, rl, rg) := by unfold lack; rw [hrg] at hrl ⊢; simp only [hrl, hrn]
      rw [e] at h; exact h
    have HEL : Hid (∀ j, j < l.length → ∀ p1 p2 p3, l.getD j pkD = (p1, p2, p3) → goneB (rl.map (·.1)) (l.take (j + 1)) = goneB (rl.map (·.1)) (l.take j) + (if decide (p1 ∈ rl.map (·.1)) = true then 0 else p3)) := Lib.hid fun j hj p1 p2 p3 hp => by
      rw [(takeP l j hj).1, hp]; exact goneB_snoc _ _ _
    have HBD : Hid (∀ j, 0 ≤ goneB (rl.map (·.1)) (l.take j) ∧ goneB (rl.map (·.1)) (l.take j) ≤ 1188) := Lib.hid fun j => goneB_bd (fun p hp => (hok.2.2.2.1 p (List.mem_of_mem_take hp)).2.2.1) (by have h : l.length ≤ 12 := hok.2.2.1; rw [List.length_take]; omega)
    have HALL : Hid (lbytes rl = lbytes l - goneB (rl.map (·.1)) l) := Lib.hid (by rw [← hrl]; exact goneB_all hok.2.2.2.2)
    have HV1 := Lib.hid (lbytesv_yes hok)
    have HV2 := Lib.hid (lbytesv_yes hok2)
    have HB1 : Hid (0 ≤ lbytes l ∧ lbytes l ≤ 1188) := Lib.hid (by have h := lbytes_tk hok l.length; rw [List.take_length] at h; exact h)
    have hl13 : l.length ≤ 1000 := by have := HL.out; omega
    have hrl13 : rl.length ≤ 1000 := by have := HLN.out; have := HL.out; omega
    have HOK := Lib.hid hok
    clear hk hrn hrl hrg hgi hli hok hok2
    go_wp2_with fail
    refine (SL.out _ (Below.refl _ _)).mono ?_
    rintro e wa1 ⟨rfl, hba1⟩
    have KA1 := Lib.hid (bup (Below.refl _ _) hba1)
    clear hba1
    go_wp2_with fail
    refine (GG.out _ KA1.out).mono ?_
    rintro e wb1 ⟨rfl, hbb1⟩
    have KB1 := Lib.hid (bup KA1.out hbb1)
    clear hbb1
    go_wp2_with fail
    refine (LL.out _ KB1.out).mono ?_
    rintro e wc1 ⟨rfl, hbc1⟩
    have KC1 := Lib.hid (bup KB1.out hbc1)
    clear hbc1
    clear x0 x1 x2 y0 y1 y2 z0 z1 z2
    obtain ⟨x0, x1, x2⟩ := X1.out.c.below KC1.out
    obtain ⟨y0, y1, y2⟩ := X2.out.c.below KC1.out
    obtain ⟨z0, z1, z2⟩ := V3.out.c.below KC1.out
    go_wp2_with fail
    clear x0 x1 x2 y0 y1 y2 z0 z1 z2
    go_loopw [15, 16] (fun nv iv wr => ∃ j : Nat, j ≤ l.length ∧ iv = .int .i64 (j : Int) ∧ nv = .int .i64 (goneB (rl.map (·.1)) (l.take j)) ∧ Hid (Below W3.heap.size W3 wr)) (fun _ iv _ => l.length - (intOf iv).toNat)
    case atStart => exact ⟨0, Nat.zero_le _, rfl, rfl, KC1⟩
    case round =>
      obtain ⟨j, hj, rfl, rfl, HB⟩ := hrel
      obtain ⟨x0, x1, x2⟩ := X1.out.c.below HB.out
      obtain ⟨y0, y1, y2⟩ := X2.out.c.below HB.out
      by_cases hlt : j < l.length
      case neg =>
        have hlt' : ¬ (j : Int) < (l.length : Int) := by omega
        have hdl := decide_eq_false hlt'
        have hjl : j = l.length := by omega
        obtain ⟨m0, hm0⟩ : ∃ m0, goneB (rl.map (·.1)) (l.take j) = m0 := ⟨_, rfl⟩
        have HM0 : Hid (goneB (rl.map (·.1)) l = m0) := Lib.hid (by rw [← hm0, hjl, List.take_length])
        rw [hm0]
        clear hm0 hjl
        obtain ⟨tb, htb⟩ : ∃ tb, lbytes l = tb := ⟨_, rfl⟩
        obtain ⟨ob, hob⟩ : ∃ ob, lbytes rl = ob := ⟨_, rfl⟩
        have HTB := Lib.hid htb
        have HOB := Lib.hid hob
        have hmb : 0 ≤ m0 ∧ m0 ≤ 1188 := by have h := HBD.out l.length; rw [List.take_length, HM0.out] at h; exact h
        have htbb : 0 ≤ tb ∧ tb ≤ 1188 := by rw [← htb]; exact HB1.out
        have hsub : ob = tb - m0 := by rw [← hob, HALL.out, HM0.out, htb]
        have hw1 : IntKind.i64.wrap (tb - m0) = tb - m0 := IntWalk.i64_in _ (by omega)
        have hw7 : IntKind.i64.wrap (tb + 7) = tb + 7 := IntWalk.i64_in _ (by omega)
        have hq1 : (ob == tb - m0) = true := by rw [hsub]; exact beq_self_eq_true _
        obtain ⟨⟨⟨sn, sl, sg⟩, si, sb⟩, hq⟩ : ∃ r, lsendv (n, l, g) 999 7 = r := ⟨_, rfl⟩
        have HQS := Lib.hid hq
        have HSL : Hid (sl.length ≤ 13) := Lib.hid (by have := lsendv_len (n := n) (g := g) (t := 999) (z := 7) HL.out; rw [hq] at this; exact this)
        have CS := Lib.hid (ilsend_any n g 999 7 _ l wr (X1.out.below HB.out).k (by omega))
        rw [hq] at CS
        clear hq hsub hob
        go_wp2_with fail
        refine CS.out.mono ?_
        rintro e w8 ⟨v8, rfl, hO8, hb8⟩
        dsimp only at hO8 ⊢
        have V8 := Lib.hid (SV.own (n := sn) (g := sg) hO8 25)
        obtain ⟨a8, c8, rfl⟩ := OwnPk.shape hO8
        have U8 := Lib.hid (bup hb8 (below_al w8 (.cells #[.int .i64 sn, .slice a8 sl.length c8, .int .i64 sg] 25)))
        have B8 := Lib.hid (bup HB.out U8.out)
        clear hO8 hb8 x0 x1 x2 y0 y1 y2
        go_upto_region 15 with fail
        generalize w8.alloc (.cells #[.int .i64 sn, .slice a8 sl.length c8, .int .i64 sg] 25) = W8 at V8 U8 B8 ⊢
        generalize w8.heap.size = qb at V8 ⊢
        have C1 : Hid (∀ m : Up W8, Calls Try.prog 20 #[.agg #[.int .i64 rn, .slice a2 rl.length c2, .int .i64 rg]] m.w fun e w' => e = .returned (.int .i64 ob) ∧ ∃ m' : Up W8, w' = m'.w) := Lib.hid (up_call fun W hb => (ilbytes_any rn rg _ rl W (X2.out.below (bup B8.out hb)).k (by omega)).mono fun e w' h => by rw [HV2.out, HOB.out] at h; exact h)
        have C2 : Hid (∀ m : Up W8, Calls Try.prog 20 #[.agg #[.int .i64 n, .slice a1 l.length c1, .int .i64 g]] m.w fun e w' => e = .returned (.int .i64 tb) ∧ ∃ m' : Up W8, w' = m'.w) := Lib.hid (up_call fun W hb => (ilbytes_any n g _ l W (X1.out.below (bup B8.out hb)).k (by omega)).mono fun e w' h => by rw [HV1.out, HTB.out] at h; exact h)
        obtain ⟨x0, x1, x2⟩ := X1.out.c.below B8.out
        obtain ⟨y0, y1, y2⟩ := X2.out.c.below B8.out
        obtain ⟨z0, z1, z2⟩ := V8.out.c
        have q0 := Up.cell x0
        have q1 := Up.cell x1
        have q2 := Up.cell x2
        have r0 := Up.cell y0
        have r1 := Up.cell y1
        have r2 := Up.cell y2
        have s0 := Up.cell z0
        have s1 := Up.cell z1
        have s2 := Up.cell z2
        cases sb with
        | false =>
          refine up_region W8 (Below.refl _ _) (by kernel_rfl) (by kernel_rfl) ?_
          repeat (go_big_quiet_step (first | (go_at_call 20; (with_reducible exact C1.out _)) | (go_at_call 20; (with_reducible exact C2.out _))))
          refine wpQuiet_nil ?_
          rintro W7 ⟨⟨W7x, hb7⟩, hw7'⟩
          have hw7'' : W7 = W7x := hw7'
          subst hw7''
          have B7 := Lib.hid (bup B8.out hb7)
          clear q0 q1 q2 r0 r1 r2 s0 s1 s2 hb7 hw7' x0 x1 x2 y0 y1 y2 z0 z1 z2
          go_wp2_with fail
          go_ret
          exact ⟨rfl, bup B3.out B7.out⟩
        | true =>
          obtain ⟨_, e2, e3, e4, hk, _⟩ := lsendv_true HQS.out
          have hsb : lbytesv (sn, sl, sg) = tb + 7 := by
            rw [lbytesv_yes hk, ← HTB.out]
            show lbytes sl = lbytes l + 7
            rw [e3]; unfold lbytes; rw [List.map_append, List.sum_append]; simp
          have C3 : Hid (∀ m : Up W8, Calls Try.prog 20 #[.agg #[.int .i64 sn, .slice a8 sl.length c8, .int .i64 sg]] m.w fun e w' => e = .returned (.int .i64 (tb + 7)) ∧ ∃ m' : Up W8, w' = m'.w) := Lib.hid (up_call fun W hb => (ilbytes_any sn sg _ sl W (V8.out.below hb).k (by have := HSL.out; omega)).mono fun e w' h => by rw [hsb] at h; exact h)
          have hq2 : (tb + 7 == tb + 7) = true := beq_self_eq_true _
          clear e2 e3 e4 hk hsb
          refine up_region W8 (Below.refl _ _) (by kernel_rfl) (by kernel_rfl) ?_
          repeat (go_big_quiet_step (first | (go_at_call 20; (with_reducible exact C1.out _)) | (go_at_call 20; (with_reducible exact C2.out _)) | (go_at_call 20; (with_reducible exact C3.out _))))
          refine wpQuiet_nil ?_
          rintro W7 ⟨⟨W7x, hb7⟩, hw7'⟩
          have hw7'' : W7 = W7x := hw7'
          subst hw7''
          have B7 := Lib.hid (bup B8.out hb7)
          clear q0 q1 q2 r0 r1 r2 s0 s1 s2 hb7 hw7' x0 x1 x2 y0 y1 y2 z0 z1 z2
          go_wp2_with fail
          go_ret
          exact ⟨rfl, bup B3.out B7.out⟩
      have hlt' : (j : Int) < (l.length : Int) := by omega
      obtain ⟨gq, oq, ha, d0, _, d2⟩ := row_at (X1.out.below HB.out).k hlt
      obtain ⟨⟨p1, p2, p3⟩, hp⟩ : ∃ p, l.getD j pkD = p := ⟨_, rfl⟩
      rw [hp] at d0 d2
      have HS := Lib.hid (HEL.out j hlt p1 p2 p3 hp)
      have HB0 := Lib.hid (HBD.out j)
      have HB1' := Lib.hid (HBD.out (j + 1))
      subst ha
      simp only at d0 d2
      have hwj : IntKind.i64.wrap ((j : Int) + 1) = ((j + 1 : Nat) : Int) := by rw [IntWalk.i64_in _ (by omega)]; omega
      obtain ⟨bk, hbk⟩ : ∃ bk, decide (p1 ∈ rl.map (·.1)) = bk := ⟨_, rfl⟩
      have CK : Hid (∀ m : Up wr, Calls Try.prog 30 #[.agg #[.int .i64 rn, .slice a2 rl.length c2, .int .i64 rg], .int .i64 p1] m.w fun e w' => e = .returned (.bool bk) ∧ ∃ m' : Up wr, w' = m'.w) := Lib.hid (up_call fun W hb => (infl_any rn rg p1 _ rl W (X2.out.below (bup HB.out hb)).k (by omega)).mono fun e w' h => by rw [hbk] at h; exact h)
      rw [hbk] at HS
      obtain ⟨m0, hm0⟩ : ∃ m0, goneB (rl.map (·.1)) (l.take j) = m0 := ⟨_, rfl⟩
      rw [hm0] at HS HB0 ⊢
      clear hp hbk hm0
      go_wp2_with fail
      have q0 := Up.cell x0
      have q1 := Up.cell x1
      have q2 := Up.cell x2
      have r0 := Up.cell y0
      have r1 := Up.cell y1
      have r2 := Up.cell y2
      have qd := Up.cell d0
      refine up_region wr (Below.refl _ _) (by kernel_rfl) (by kernel_rfl) ?_
      repeat (go_big_quiet_step (first | (go_at_call 30; (with_reducible exact CK.out _))))
      refine wpQuiet_nil ?_
      rintro W7 ⟨⟨W7x, hb7⟩, hw7⟩
      have hw7' : W7 = W7x := hw7
      subst hw7'
      have B7 := Lib.hid (bup HB.out hb7)
      have d7 := (hb7.cell (World.block_lt_of_cell? wr _ d2)).trans d2
      clear q0 q1 q2 r0 r1 r2 qd hb7 hw7 x0 x1 x2 y0 y1 y2 d0 d2
      obtain ⟨x0, x1, x2⟩ := X1.out.c.below B7.out
      cases bk with
      | true =>
        have HS' := Lib.hid (show goneB (rl.map (·.1)) (l.take (j + 1)) = m0 by rw [HS.out]; simp)
        go_wp2_with fail
        go_roundw
        case rel => exact ⟨j + 1, hlt, by go_num, by rw [HS'.out], B7⟩
        case measure => simp [intOf]; omega
      | false =>
        have HS' := Lib.hid (show goneB (rl.map (·.1)) (l.take (j + 1)) = m0 + p3 by rw [HS.out]; simp)
        have hws : IntKind.i64.wrap (m0 + p3) = m0 + p3 := IntWalk.i64_in _ (by have h := HB1'.out; rw [HS'.out] at h; omega)
        go_wp2_with fail
        go_roundw
        case rel => exact ⟨j + 1, hlt, by go_num, by rw [HS'.out], B7⟩
        case measure => simp [intOf]; omega

end Go.Proofs.Ytpbkhlkhnjmacaa
