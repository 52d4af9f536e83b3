/- The law FnLossSend: the walk. -/
import Derived.Test.YtpbkhlkhnjmacaaLawLs
import Derived.Test.YtpbkhlkhnjmacaaIVm
import Derived.Deep.CutBlock
import Derived.BigQuiet
import Derived.Deep.QuietTactic
import Derived.Deep.Draws
namespace Go.Proofs.Ytpbkhlkhnjmacaa
open Go.RowKit
set_option linter.unusedVariables false
set_option linter.unusedSimpArgs false

set_option maxRecDepth 100000 in
set_option maxHeartbeats 8000000 in
theorem losssend_walk (a : Option Addr) (len cap : Nat) (zs : List Int) (w : World) (h : IsRow .u8 w a len cap zs) :
    Calls Try.prog 4 #[.slice a len cap] w fun e w' => e = .returned (.bool true) ∧ Below w.heap.size w w' := by
  have H := Lib.hid h
  clear h
  by_cases hl : 1048576 < len
  · go_enter Try.func4, Try.ntmps4
    go_wp2
    go_ret
    exact ⟨rfl, Below.refl _ _⟩
  go_enter Try.func4, Try.ntmps4
  go_wp2_with fail
  refine (drsend_any a len cap zs w H.out).mono ?_
  rintro e w1 ⟨n, g, t, z, v1, l, rfl, hl12, hO1, hn1, hb1⟩
  have V1 := Lib.hid (SV.own (n := n) (g := g) hO1 25)
  have B1 := Lib.hid (bup hb1 (below_al w1 (.cells #[.int .i64 n, v1, .int .i64 g] 25)))
  obtain ⟨a1, c1, rfl⟩ := OwnPk.shape hO1
  have HL := Lib.hid hl12
  clear hO1 hn1 hb1 hl12
  go_upto_region 4 with fail
  generalize w1.alloc (.cells #[.int .i64 n, .slice a1 l.length c1, .int .i64 g] 25) = W1 at V1 B1 ⊢
  generalize w1.heap.size = xb at V1 ⊢
  obtain ⟨⟨⟨rn, rl, rg⟩, ri, rb⟩, hq⟩ : ∃ r, lsendv (n, l, g) t z = r := ⟨_, rfl⟩
  have HQ := Lib.hid hq
  have HRL : Hid (rl.length ≤ 13) := Lib.hid (by have := lsendv_len (n := n) (g := g) (t := t) (z := z) HL.out; rw [hq] at this; exact this)
  have CI := Lib.hid (ilsend_any n g t z _ l W1 V1.out.k (by have := HL.out; omega))
  rw [hq] at CI
  obtain ⟨x0, x1, x2⟩ := V1.out.c
  go_wp2_with fail
  refine CI.out.mono ?_
  rintro e w2 ⟨v2, rfl, hO2, hb2⟩
  dsimp only at hO2 ⊢
  have V2 := Lib.hid (SV.own (n := rn) (g := rg) hO2 25)
  obtain ⟨a2, c2, rfl⟩ := OwnPk.shape hO2
  have U2 := Lib.hid (bup hb2 (below_al w2 (.cells #[.int .i64 rn, .slice a2 rl.length c2, .int .i64 rg] 25)))
  have V1' := Lib.hid (V1.out.below U2.out)
  have B2 := Lib.hid (bup B1.out U2.out)
  clear hO2 hb2 x0 x1 x2 V1 CI
  go_upto_region 5 with fail
  generalize w2.alloc (.cells #[.int .i64 rn, .slice a2 rl.length c2, .int .i64 rg] 25) = W2 at V2 U2 V1' B2 ⊢
  generalize w2.heap.size = yb at V2 ⊢
  have CS := Lib.hid (slosssend_any n g t z _ l W2 V1'.out.k V1'.out.nil (by have := HL.out; omega))
  rw [hq] at CS
  clear hq U2
  obtain ⟨x0, x1, x2⟩ := V1'.out.c
  go_wp2_with fail
  refine CS.out.mono ?_
  rintro e w3 ⟨v3, rfl, hO3, hb3⟩
  dsimp only at hO3 ⊢
  have V3 := Lib.hid (SV.own (n := rn) (g := rg) hO3 25)
  obtain ⟨a3, c3, rfl⟩ := OwnPk.shape hO3
  have U3 := Lib.hid (bup hb3 (below_al w3 (.cells #[.int .i64 rn, .slice a3 rl.length c3, .int .i64 rg] 25)))
  have X1 := Lib.hid (V1'.out.below U3.out)
  have X2 := Lib.hid (V2.out.below U3.out)
  have B3 := Lib.hid (bup B2.out U3.out)
  clear hO3 hb3 x0 x1 x2 V1' V2 CS B1 B2
  go_upto_region 6 with fail
  generalize w3.alloc (.cells #[.int .i64 rn, .slice a3 rl.length c3, .int .i64 rg] 25) = W3 at V3 U3 X1 X2 B3 ⊢
  generalize w3.heap.size = zb at V3 ⊢
  clear U3
  have HSM := Lib.hid (fun W (hb : Below W3.heap.size W3 W) => samels_any rn rg _ _ rl W (X2.out.below hb).k (V3.out.below hb).k (by have := HRL.out; omega))
  obtain ⟨x0, x1, x2⟩ := X1.out.c
  obtain ⟨y0, y1, y2⟩ := X2.out.c
  obtain ⟨z0, z1, z2⟩ := V3.out.c
  cases rb
  case false =>
    go_wp2_with fail
    refine (HSM.out _ (Below.refl _ _)).mono ?_
    rintro e w4 ⟨rfl, hb4⟩
    have B4 := Lib.hid (bup B3.out hb4)
    obtain ⟨y0, y1, y2⟩ := X2.out.c.below hb4
    obtain ⟨z0, z1, z2⟩ := V3.out.c.below hb4
    have HM2 := Lib.hid (HSM.out _ hb4)
    clear hb4
    go_wp2_with fail
    refine HM2.out.mono ?_
    rintro e w5 ⟨rfl, hb5⟩
    have B5 := Lib.hid (bup B4.out hb5)
    clear hb5
    go_wp2_with fail
    go_ret
    exact ⟨rfl, B5.out⟩
  case true =>
    obtain ⟨e1, e2, e3, e4, hk, hk2, ht, hz, _⟩ := lsendv_true HQ.out
    have hn01 : 0 ≤ n := hk2.1.1
    have hn02 : n ≤ 1000 := hk2.1.2
    have hrl : rl.length = l.length + 1 := by rw [e3]; simp
    have hgd : rl.getD l.length pkD = (n, t, z) := by rw [e3, List.getD_eq_getElem?_getD, List.getElem?_append_right (Nat.le_refl _)]; simp
    have CV := Lib.hid (fun W (hb : Below W3.heap.size W3 W) => ilval_any rn rg _ rl W (X2.out.below hb).k (by have := HRL.out; omega))
    have HD := Lib.hid (decide_eq_true hk)
    have hwn : IntKind.i64.wrap (n + 1) = n + 1 := IntWalk.i64_in _ (by omega)
    have hwl : IntKind.i64.wrap ((l.length : Int) + 1) = (l.length : Int) + 1 := IntWalk.i64_in _ (by have := HL.out; omega)
    have hq1 : (ri == n) = true := by rw [e1]; exact beq_self_eq_true n
    have hq2 : (rn == n + 1) = true := by rw [e2]; exact beq_self_eq_true _
    have hq3 : ((rl.length : Int) == (l.length : Int) + 1) = true := by rw [hrl]; simp
    have hix : (l.length : Int) < (rl.length : Int) := by omega
    have hix' : l.length < rl.length := by omega
    obtain ⟨a2', c2', he, _, hC⟩ := X2.out.k
    obtain ⟨gb, o, ha, hc⟩ := hC (by rintro rfl; simp at hrl)
    subst ha
    simp only [Value.slice.injEq, true_and] at he
    obtain ⟨rfl, rfl⟩ := he
    have HPK := Lib.hid (hc l.length hix')
    rw [hgd] at HPK
    have HRI := Lib.hid e1
    clear hk hk2 ht hz e1 e2 e3 e4 hrl hgd hc hC
    go_wp2_with fail
    refine (HSM.out _ (Below.refl _ _)).mono ?_
    rintro e w4 ⟨rfl, hb4⟩
    have B4 := Lib.hid (bup B3.out hb4)
    obtain ⟨x0, x1, x2⟩ := X1.out.c.below hb4
    obtain ⟨y0, y1, y2⟩ := X2.out.c.below hb4
    obtain ⟨p0, p1, p2⟩ := HPK.out.below hb4 HPK.out.lt
    have HM2 := Lib.hid (CV.out _ hb4)
    have hri := HRI.out
    subst hri
    clear hb4 z0 z1 z2
    go_wp2_with fail
    refine HM2.out.mono ?_
    rw [HD.out]
    rintro e w5 ⟨rfl, hb5⟩
    have B5 := Lib.hid (bup B4.out hb5)
    clear hb5
    go_wp2_with fail
    go_ret
    exact ⟨rfl, B5.out⟩

end Go.Proofs.Ytpbkhlkhnjmacaa
