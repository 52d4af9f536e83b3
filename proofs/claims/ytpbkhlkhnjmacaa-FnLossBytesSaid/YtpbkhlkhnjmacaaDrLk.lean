/- The drawn arguments of LossAck. -/
import Derived.Test.YtpbkhlkhnjmacaaDrLa
import Derived.Test.YtpbkhlkhnjmacaaSetW
namespace Go.Proofs.Ytpbkhlkhnjmacaa
open Go.RowKit
set_option linter.unusedVariables false
set_option linter.unusedSimpArgs false

theorem own_set3 {T : TypeId} {k m : Nat} {xs : List Value} {W : World} {rb B : Nat} {u a1 a2 a3 : Value} (h : W.ownsRow B T k u m xs) (hB : rb < B) : (((W.setCell ⟨rb, 0, none⟩ a1).setCell ⟨rb, 1, none⟩ a2).setCell ⟨rb, 2, none⟩ a3).ownsRow B T k u m xs := by
  have hw : u.ownBlock ≠ some rb := fun e => by have := (World.ownsRow.lt h _ e).1; omega
  have st : ∀ (V : World) (i : Nat) (x : Value), V.ownsRow B T k u m xs → (V.setCell ⟨rb, i, none⟩ x).ownsRow B T k u m xs := fun V i x hv => World.ownsRow.kept hv (Lib.grownBy_setCell V rb i x) (by cases hq : u.ownBlock with | none => exact .inl rfl | some g => exact .inr (by rw [← hq]; exact hw))
  exact st _ _ _ (st _ _ _ (st _ _ _ h))
def GotAck (w : World) (e : Ending) (w' : World) : Prop :=
  ∃ (n g t z : Int) (v sv : Value) (l : List Pk) (rs : List (Int × Int)), e = .returned (.tuple #[.agg #[.int .i64 n, v, .int .i64 g], sv, .int .i64 t, .int .i64 z]) ∧ GotLs w n g v l w' ∧ Rngs w' sv rs ∧ rs.length ≤ 17
set_option maxRecDepth 100000 in
set_option maxHeartbeats 4000000 in
theorem drack_any (a : Option Addr) (len cap : Nat) (zs : List Int) (w : World) (h : IsRow .u8 w a len cap zs) :
    Calls Try.prog 25 #[.slice a len cap] w (GotAck w) := by
  have U0 : Below w.heap.size w (w.alloc (.cells #[.int .i64 0, .slice none 0 0, .int .i64 0] 25)) := below_al _ _
  have H := Lib.hid (h.keep (w' := w.alloc (.cells #[.int .i64 0, .slice none 0 0, .int .i64 0] 25)) fun x hx hc i v hv => cell_old _ hv)
  have Z0 := Lib.hid (C3.new w (.int .i64 0) (.slice none 0 0) (.int .i64 0) 25)
  have F0 := Lib.hid (Soft.new w #[.int .i64 0, .slice none 0 0, .int .i64 0] 25)
  have HS0 := Lib.hid (show (w.alloc (.cells #[.int .i64 0, .slice none 0 0, .int .i64 0] 25)).heap.size = w.heap.size + 1 by simp)
  have UU := Lib.hid U0
  clear h U0
  go_enter Try.func25, Try.ntmps25
  go_wp2_with fail
  refine (open_any a len cap zs _ H.out).mono ?_
  rintro e w1 ⟨rfl, hb, hR⟩
  have hb1 := Lib.hid (UU.out.trans (hb.mono (by have := HS0.out; omega)))
  have Z1 := Lib.hid (Z0.out.below hb)
  have F1 := Lib.hid (F0.out.below hb Z0.out.lt)
  have RR := Lib.hid hR
  rw [HS0.out] at RR ⊢
  clear hb hR
  go_wp2_with fail
  refine (drls_any _ _ _ RR.out (by omega)).mono ?_
  rintro e w2 ⟨n, g, s, l, rfl, hn, hg, hl, hO, hnn, hg2, hR2⟩
  have D := Lib.hid (DS.start (n := n) (g := g) (Nat.le_refl _) (show w.heap.size < w.heap.size + 1 by omega) hb1.out Z1.out F1.out RR.out.1 hg2 hR2 hO hnn 25)
  obtain ⟨ax, cx, rfl⟩ := ownsRow_shape hO
  clear hO hnn hg2 hR2 hb1 Z1 F1 RR Z0 F0 H UU HS0
  go_upto_region 3 with fail
  generalize w2.alloc (.cells #[.int .i64 n, .slice ax l.length cx, .int .i64 g] 25) = W3 at D ⊢
  generalize w2.heap.size = xb at D ⊢
  generalize w.heap.size + 1 = b at D ⊢
  have Dd := Lib.hid D.out.drew
  have kd := Dd.out.x.c0
  have hl1 : (1 : Int) ≤ 10 := by omega
  have hh1 : (10 : Int) ≤ 1000000 := by omega
  have hk1 : 0 + 200 ≤ 1000000 := by omega
  have hk2 : 0 + 200 + 1 ≤ 700000 := by omega
  have HNB := Lib.hid hn
  have HB := Lib.hid (show b < W3.heap.size from D.out.rd.1)
  go_region_held3 (fun w' => w'.cell? ⟨xb, 0, none⟩ = some (.int .i64 n)) (with_reducible first | assumption | exact kd | exact k7 | exact k8)
    ((first
      | (go_at_call 42; (with_reducible refine at_world W3.drew ?_); (with_reducible refine (pick_rdr _ _ _ _ Dd.out.rd hl1 hh1 hk1).mono ?_); rintro e w7 ⟨p1, hp1, rfl, hg7, hR7⟩; have D7 := Lib.hid (Dd.out.pick hg7 hR7); have k7 := D7.out.x.c0; have hwa : IntKind.i64.wrap ((p1 : Int) / 9) = (p1 : Int) / 9 := IntWalk.i64_in _ (by omega); have hwb : IntKind.i64.wrap (n + (p1 : Int) / 9) = n + (p1 : Int) / 9 := IntWalk.i64_in _ (by have := HNB.out; omega); obtain ⟨bd, hbd⟩ : ∃ bd, (if n + (p1 : Int) / 9 < 1 then 1 else n + (p1 : Int) / 9) = bd := ⟨_, rfl⟩; have hbd1 : 1 ≤ bd := (by rw [← hbd]; split <;> omega); have hbd2 : bd ≤ 1100 := (by rw [← hbd]; have := HNB.out; split <;> omega))
      | (go_at_call 48; (with_reducible refine at_world w7 ?_); (with_reducible refine (setw_any _ _ _ _ D7.out.rd hk2 hbd1 hbd2).mono ?_); rintro e w8 ⟨sv, rs, hrs, rfl, hg8, hR8, hOs, hns⟩; have D8 := Lib.hid (D7.out.pick hg8 hR8); have k8 := D8.out.x.c0; have OS8 := Lib.hid (hOs.lower (show b + 1 ≤ w7.heap.size from Nat.lt_of_lt_of_le (Nat.lt_succ_self b) D7.out.rd.1)))))
  all_goals
    have HRS0 := Lib.hid hrs.2
    clear kd k7 k8 hwa hwb hbd hbd1 hbd2 hg8 hR8 hOs hns hrs D7 Dd D
    go_wp2_with fail
    refine (pick_rdr b _ _ _ D8.out.rd (by omega) (by omega) (by omega)).mono ?_
    rintro e w9 ⟨y, hy, rfl, hg9, hR9⟩
    have D9 := Lib.hid (D8.out.pick hg9 hR9)
    have O9 := Lib.hid (OS8.out.picked hg9 (Nat.lt_succ_self b))
    clear hg9 hR9 D8 OS8
    by_cases hy0 : y = 0
    · have hb0 : ((y : Int) == 0) = true := by rw [hy0]; rfl
      clear hy0
      go_wp2_with fail
      refine (ranges_any b _ _ D9.out.rd (by omega)).mono ?_
      rintro e wa ⟨sw, rt, hrt, rfl, hga, hRa, hOa, hna⟩
      have HRS := Lib.hid hrt.2
      have Da := Lib.hid (D9.out.pick hga hRa)
      have Oa := Lib.hid (hOa.lower (show b + 1 ≤ w9.heap.size from D9.out.rd.1))
      clear hga hRa hOa hna hrt D9 O9
      obtain ⟨q0, q1, q2⟩ := Da.out.x
      go_wp2_with fail
      refine (drnow_any b _ n g _ l _ Da.out.rd (b + 1) Da.out.own (Nat.lt_succ_self b) (by omega) (by omega)).mono ?_
      rintro e wn ⟨t, rfl, hgn, hRn⟩
      have Dn := Lib.hid (Da.out.pick hgn hRn)
      have On := Lib.hid (Oa.out.picked hgn (Nat.lt_succ_self b))
      clear hgn hRn q0 q1 q2
      go_upto_region 7 with fail
      have De := Lib.hid Dn.out.drew
      have Oe := Lib.hid (On.out.below (Below.refl _ _).drew)
      have kd := And.intro (And.intro De.out.x.c0 De.out.x.c1) De.out.x.c2
      have ha1 : (1 : Int) ≤ 40 := by omega
      have hb1 : (40 : Int) ≤ 1000000 := by omega
      have ha2 : (1 : Int) ≤ 15 := by omega
      have hb2 : (15 : Int) ≤ 1000000 := by omega
      have hc1 : 0 + 200 + 1 + 20 + 1 + 100 + 3 ≤ 1000000 := by omega
      have hc2 : 0 + 200 + 1 + 20 + 1 + 100 + 3 + 1 ≤ 1000000 := by omega
      go_region_held3 (fun w' => (w'.cell? ⟨xb, 0, none⟩ = some (.int .i64 n) ∧ w'.cell? ⟨xb, 1, none⟩ = some (.slice ax l.length cx)) ∧ w'.cell? ⟨xb, 2, none⟩ = some (.int .i64 g)) (with_reducible first | assumption | exact kd | exact k1 | exact k2 | exact k3)
        ((first
          | (go_at_call 42; (with_reducible refine at_world wn.drew ?_); (with_reducible refine (pick_rdr _ _ _ _ De.out.rd ha1 hb1 hc1).mono ?_); rintro e wp ⟨p2, hp2, rfl, hgp, hRp⟩; have Dp := Lib.hid (De.out.pick hgp hRp); have Op := Lib.hid (Oe.out.picked hgp (Nat.lt_succ_self b)); have k1 := And.intro (And.intro Dp.out.x.c0 Dp.out.x.c1) Dp.out.x.c2)
          | (go_at_call 42; (with_reducible refine at_world wp ?_); (with_reducible refine (pick_rdr _ _ _ _ Dp.out.rd ha2 hb2 hc2).mono ?_); rintro e wq ⟨p3, hp3, rfl, hgq, hRq⟩; have Dq := Lib.hid (Dp.out.pick hgq hRq); have Oq := Lib.hid (Op.out.picked hgq (Nat.lt_succ_self b)); have k2 := And.intro (And.intro Dq.out.x.c0 Dq.out.x.c1) Dq.out.x.c2; have z0 := Dq.out.zer.c0; have z1 := Dq.out.zer.c1; have z2 := Dq.out.zer.c2; have f0 := Dq.out.zf 0; have f1 := Dq.out.zf 1; have f2 := Dq.out.zf 2; have KE := Lib.hid Dq.out.fin; have k3 := And.intro (And.intro KE.out.2.2.2.c0 KE.out.2.2.2.c1) KE.out.2.2.2.c2)))
      all_goals
        obtain ⟨zz, hzz⟩ : ∃ zz : Int, IntKind.i64.wrap (IntKind.i64.wrap (1 + (p2 : Int)) - IntKind.i64.wrap (IntKind.i64.wrap ((p3 : Int) / 14) * 50)) = zz := ⟨_, rfl⟩
        rw [hzz]
        have hne := Lib.hid Dq.out.ne.1
        have RR : Hid (Rngs (((wq.setCell ⟨w.heap.size, 0, none⟩ (.int .i64 n)).setCell ⟨w.heap.size, 1, none⟩ (.slice ax l.length cx)).setCell ⟨w.heap.size, 2, none⟩ (.int .i64 g)) sw rt) := Lib.hid (Rngs.of_own (own_set3 Oq.out (by have := Dq.out.ord; omega)))
        clear hzz kd k1 k2 k3 z0 z1 z2 f0 f1 f2
        generalize ((wq.setCell ⟨w.heap.size, 0, none⟩ (.int .i64 n)).setCell ⟨w.heap.size, 1, none⟩ (.slice ax l.length cx)).setCell ⟨w.heap.size, 2, none⟩ (.int .i64 g) = WF at KE RR ⊢
        obtain ⟨e0, e1, e2⟩ := KE.out.1
        go_wp2_with fail
        refine bodyPost_ret (v := .tuple #[.agg #[.int .i64 n, .slice ax l.length cx, .int .i64 g], sw, .int .i64 t, .int .i64 zz]) ?hr rfl ?_
        case hr => rw [results_cttt rfl]; go_simp
        exact ⟨n, g, t, zz, _, _, l, rt, rfl, ⟨hl, KE.out.2.2.1, hne.out, KE.out.2.1⟩, RR.out, by have := HRS.out; omega⟩
    · have hb0 : ((y : Int) == 0) = false := by rw [beq_eq_false_iff_ne]; omega
      clear hy0
      have HRS : Hid (rs.length ≤ 17) := Lib.hid (by have := HRS0.out; omega)
      obtain ⟨q0, q1, q2⟩ := D9.out.x
      go_wp2_with fail
      refine (drnow_any b _ n g _ l _ D9.out.rd (b + 1) D9.out.own (Nat.lt_succ_self b) (by omega) (by omega)).mono ?_
      rintro e wn ⟨t, rfl, hgn, hRn⟩
      have Dn := Lib.hid (D9.out.pick hgn hRn)
      have On := Lib.hid (O9.out.picked hgn (Nat.lt_succ_self b))
      clear hgn hRn q0 q1 q2
      go_upto_region 7 with fail
      have De := Lib.hid Dn.out.drew
      have Oe := Lib.hid (On.out.below (Below.refl _ _).drew)
      have kd := And.intro (And.intro De.out.x.c0 De.out.x.c1) De.out.x.c2
      have ha1 : (1 : Int) ≤ 40 := by omega
      have hb1 : (40 : Int) ≤ 1000000 := by omega
      have ha2 : (1 : Int) ≤ 15 := by omega
      have hb2 : (15 : Int) ≤ 1000000 := by omega
      have hc1 : 0 + 200 + 1 + 20 + 1 + 3 ≤ 1000000 := by omega
      have hc2 : 0 + 200 + 1 + 20 + 1 + 3 + 1 ≤ 1000000 := by omega
      go_region_held3 (fun w' => (w'.cell? ⟨xb, 0, none⟩ = some (.int .i64 n) ∧ w'.cell? ⟨xb, 1, none⟩ = some (.slice ax l.length cx)) ∧ w'.cell? ⟨xb, 2, none⟩ = some (.int .i64 g)) (with_reducible first | assumption | exact kd | exact k1 | exact k2 | exact k3)
        ((first
          | (go_at_call 42; (with_reducible refine at_world wn.drew ?_); (with_reducible refine (pick_rdr _ _ _ _ De.out.rd ha1 hb1 hc1).mono ?_); rintro e wp ⟨p2, hp2, rfl, hgp, hRp⟩; have Dp := Lib.hid (De.out.pick hgp hRp); have Op := Lib.hid (Oe.out.picked hgp (Nat.lt_succ_self b)); have k1 := And.intro (And.intro Dp.out.x.c0 Dp.out.x.c1) Dp.out.x.c2)
          | (go_at_call 42; (with_reducible refine at_world wp ?_); (with_reducible refine (pick_rdr _ _ _ _ Dp.out.rd ha2 hb2 hc2).mono ?_); rintro e wq ⟨p3, hp3, rfl, hgq, hRq⟩; have Dq := Lib.hid (Dp.out.pick hgq hRq); have Oq := Lib.hid (Op.out.picked hgq (Nat.lt_succ_self b)); have k2 := And.intro (And.intro Dq.out.x.c0 Dq.out.x.c1) Dq.out.x.c2; have z0 := Dq.out.zer.c0; have z1 := Dq.out.zer.c1; have z2 := Dq.out.zer.c2; have f0 := Dq.out.zf 0; have f1 := Dq.out.zf 1; have f2 := Dq.out.zf 2; have KE := Lib.hid Dq.out.fin; have k3 := And.intro (And.intro KE.out.2.2.2.c0 KE.out.2.2.2.c1) KE.out.2.2.2.c2)))
      all_goals
        obtain ⟨zz, hzz⟩ : ∃ zz : Int, IntKind.i64.wrap (IntKind.i64.wrap (1 + (p2 : Int)) - IntKind.i64.wrap (IntKind.i64.wrap ((p3 : Int) / 14) * 50)) = zz := ⟨_, rfl⟩
        rw [hzz]
        have hne := Lib.hid Dq.out.ne.1
        have RR : Hid (Rngs (((wq.setCell ⟨w.heap.size, 0, none⟩ (.int .i64 n)).setCell ⟨w.heap.size, 1, none⟩ (.slice ax l.length cx)).setCell ⟨w.heap.size, 2, none⟩ (.int .i64 g)) sv rs) := Lib.hid (Rngs.of_own (own_set3 Oq.out (by have := Dq.out.ord; omega)))
        clear hzz kd k1 k2 k3 z0 z1 z2 f0 f1 f2
        generalize ((wq.setCell ⟨w.heap.size, 0, none⟩ (.int .i64 n)).setCell ⟨w.heap.size, 1, none⟩ (.slice ax l.length cx)).setCell ⟨w.heap.size, 2, none⟩ (.int .i64 g) = WF at KE RR ⊢
        obtain ⟨e0, e1, e2⟩ := KE.out.1
        go_wp2_with fail
        refine bodyPost_ret (v := .tuple #[.agg #[.int .i64 n, .slice ax l.length cx, .int .i64 g], sv, .int .i64 t, .int .i64 zz]) ?hr rfl ?_
        case hr => rw [results_cttt rfl]; go_simp
        exact ⟨n, g, t, zz, _, _, l, rs, rfl, ⟨hl, KE.out.2.2.1, hne.out, KE.out.2.1⟩, RR.out, by have := HRS.out; omega⟩

end Go.Proofs.Ytpbkhlkhnjmacaa
