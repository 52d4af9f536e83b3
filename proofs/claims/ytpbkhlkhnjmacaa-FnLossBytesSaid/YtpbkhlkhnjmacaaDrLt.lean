/- The drawn arguments of LossSend. -/
import Derived.Test.YtpbkhlkhnjmacaaDrLa
namespace Go.Proofs.Ytpbkhlkhnjmacaa
open Go.RowKit
set_option linter.unusedVariables false
set_option linter.unusedSimpArgs false

def GotSend (w : World) (e : Ending) (w' : World) : Prop :=
  ∃ (n g t z : Int) (v : Value) (l : List Pk), e = .returned (.tuple #[.agg #[.int .i64 n, v, .int .i64 g], .int .i64 t, .int .i64 z]) ∧ GotLs w n g v l w'
set_option maxRecDepth 100000 in
set_option maxHeartbeats 4000000 in
theorem drsend_any (a : Option Addr) (len cap : Nat) (zs : List Int) (w : World) (h : IsRow .u8 w a len cap zs) :
    Calls Try.prog 21 #[.slice a len cap] w (GotSend w) := by
  have U0 : Below w.heap.size w (w.alloc (.cells #[.int .i64 0, .slice none 0 0, .int .i64 0] 25)) := below_al _ _
  have H := Lib.hid (h.keep (w' := w.alloc (.cells #[.int .i64 0, .slice none 0 0, .int .i64 0] 25)) fun x hx hc i v hv => cell_old _ hv)
  have Z0 := Lib.hid (C3.new w (.int .i64 0) (.slice none 0 0) (.int .i64 0) 25)
  have F0 := Lib.hid (Soft.new w #[.int .i64 0, .slice none 0 0, .int .i64 0] 25)
  have HS0 := Lib.hid (show (w.alloc (.cells #[.int .i64 0, .slice none 0 0, .int .i64 0] 25)).heap.size = w.heap.size + 1 by simp)
  have UU := Lib.hid U0
  clear h U0
  go_enter Try.func21, Try.ntmps21
  go_wp2_with fail
  refine (open_any a len cap zs _ H.out).mono ?_
  rintro e w1 ⟨rfl, hb, hR⟩
  have hb1 := Lib.hid (UU.out.trans (hb.mono (by have := HS0.out; omega)))
  have Z1 := Lib.hid (Z0.out.below hb)
  have F1 := Lib.hid (F0.out.below hb Z0.out.lt)
  have RR := Lib.hid hR
  rw [HS0.out] at RR ⊢
  clear hb hR
  go_wp2_with fail
  refine (drls_any _ _ _ RR.out (by omega)).mono ?_
  rintro e w2 ⟨n, g, s, l, rfl, hn, hg, hl, hO, hnn, hg2, hR2⟩
  have D := Lib.hid (DS.start (n := n) (g := g) (Nat.le_refl _) (show w.heap.size < w.heap.size + 1 by omega) hb1.out Z1.out F1.out RR.out.1 hg2 hR2 hO hnn 25)
  obtain ⟨ax, cx, rfl⟩ := ownsRow_shape hO
  clear hO hnn hg2 hR2 hb1 Z1 F1 RR Z0 F0 H UU HS0
  go_upto_region 3 with fail
  generalize w2.alloc (.cells #[.int .i64 n, .slice ax l.length cx, .int .i64 g] 25) = W3 at D ⊢
  generalize w2.heap.size = xb at D ⊢
  generalize w.heap.size + 1 = b at D ⊢
  obtain ⟨q0, q1, q2⟩ := D.out.x
  go_wp2_with fail
  refine (drnow_any b _ n g _ l _ D.out.rd (b + 1) D.out.own (Nat.lt_succ_self b) (by omega) (by omega)).mono ?_
  rintro e w4 ⟨t, rfl, hg4, hR4⟩
  have D4 := Lib.hid (D.out.pick hg4 hR4)
  clear hg4 hR4 D q0 q1 q2
  go_upto_region 4 with fail
  have Dd := Lib.hid D4.out.drew
  have kd := And.intro (And.intro Dd.out.x.c0 Dd.out.x.c1) Dd.out.x.c2
  have hl1 : (1 : Int) ≤ 99 := by omega
  have hh1 : (99 : Int) ≤ 1000000 := by omega
  have hl2 : (1 : Int) ≤ 12 := by omega
  have hh2 : (12 : Int) ≤ 1000000 := by omega
  have hl3 : (1 : Int) ≤ 3 := by omega
  have hh3 : (3 : Int) ≤ 1000000 := by omega
  have hk1 : 0 + 200 + 3 ≤ 1000000 := by omega
  have hk2 : 0 + 200 + 3 + 1 ≤ 1000000 := by omega
  have hk3 : 0 + 200 + 3 + 1 + 1 ≤ 1000000 := by omega
  go_region_held3 (fun w' => (w'.cell? ⟨xb, 0, none⟩ = some (.int .i64 n) ∧ w'.cell? ⟨xb, 1, none⟩ = some (.slice ax l.length cx)) ∧ w'.cell? ⟨xb, 2, none⟩ = some (.int .i64 g)) (with_reducible first | assumption | exact kd | exact k7 | exact k8 | exact k9 | exact k10)
    ((first
      | (go_at_call 42; (with_reducible refine at_world w4.drew ?_); (with_reducible refine (pick_rdr _ _ _ _ Dd.out.rd hl1 hh1 hk1).mono ?_); rintro e w7 ⟨p1, hp1, rfl, hg7, hR7⟩; have D7 := Lib.hid (Dd.out.pick hg7 hR7); have k7 := And.intro (And.intro D7.out.x.c0 D7.out.x.c1) D7.out.x.c2)
      | (go_at_call 42; (with_reducible refine at_world w7 ?_); (with_reducible refine (pick_rdr _ _ _ _ D7.out.rd hl2 hh2 hk2).mono ?_); rintro e w8 ⟨p2, hp2, rfl, hg8, hR8⟩; have D8 := Lib.hid (D7.out.pick hg8 hR8); have k8 := And.intro (And.intro D8.out.x.c0 D8.out.x.c1) D8.out.x.c2)
      | (go_at_call 42; (with_reducible refine at_world w8 ?_); (with_reducible refine (pick_rdr _ _ _ _ D8.out.rd hl3 hh3 hk3).mono ?_); rintro e w9 ⟨p3, hp3, rfl, hg9, hR9⟩; have D9 := Lib.hid (D8.out.pick hg9 hR9); have k9 := And.intro (And.intro D9.out.x.c0 D9.out.x.c1) D9.out.x.c2; have z0 := D9.out.zer.c0; have z1 := D9.out.zer.c1; have z2 := D9.out.zer.c2; have f0 := D9.out.zf 0; have f1 := D9.out.zf 1; have f2 := D9.out.zf 2; have KE := Lib.hid D9.out.fin; have k10 := And.intro (And.intro KE.out.2.2.2.c0 KE.out.2.2.2.c1) KE.out.2.2.2.c2)))
  all_goals
    obtain ⟨zz, hzz⟩ : ∃ zz : Int, IntKind.i64.wrap (IntKind.i64.wrap (1 + (p1 : Int)) + IntKind.i64.wrap (IntKind.i64.wrap (IntKind.i64.wrap ((p2 : Int) / 11) * IntKind.i64.wrap ((p3 : Int) - 1)) * 100)) = zz := ⟨_, rfl⟩
    rw [hzz]
    have hne := Lib.hid D9.out.ne.1
    clear hzz kd k7 k8 k9 k10 z0 z1 z2 f0 f1 f2 D7 D8 Dd D4 D9
    generalize ((w9.setCell ⟨w.heap.size, 0, none⟩ (.int .i64 n)).setCell ⟨w.heap.size, 1, none⟩ (.slice ax l.length cx)).setCell ⟨w.heap.size, 2, none⟩ (.int .i64 g) = WF at KE ⊢
    obtain ⟨e0, e1, e2⟩ := KE.out.1
    go_wp2_with fail
    refine bodyPost_ret (v := .tuple #[.agg #[.int .i64 n, .slice ax l.length cx, .int .i64 g], .int .i64 t, .int .i64 zz]) ?hr rfl ?_
    case hr => rw [results_ctt rfl]; go_simp
    exact ⟨n, g, t, zz, _, l, rfl, hl, KE.out.2.2.1, hne.out, KE.out.2.1⟩

end Go.Proofs.Ytpbkhlkhnjmacaa
