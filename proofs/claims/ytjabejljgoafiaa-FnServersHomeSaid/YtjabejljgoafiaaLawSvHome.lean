/- The law FnServersHome: the walk. -/
import Derived.Test.YtjabejljgoafiaaLawS
import Derived.Deep.CutBlock
namespace Go.Proofs.Ytjabejljgoafiaa
open Go.RowKit
set_option linter.unusedVariables false
set_option linter.unusedSimpArgs false

set_option maxRecDepth 100000 in
set_option maxHeartbeats 8000000 in
theorem svhome_walk (a : Option Addr) (len cap : Nat) (zs : List Int) (w : World) (h : IsRow .u8 w a len cap zs) :
    Calls Try.prog 11 #[.slice a len cap] w fun e w' => e = .returned (.bool true) ∧ Below w.heap.size w w' := by
  have H := Lib.hid h
  clear h
  by_cases hl : 1048576 < len
  · go_enter Try.func11, Try.ntmps11
    go_wp2
    go_ret
    exact ⟨rfl, Below.refl _ _⟩
  go_enter Try.func11, Try.ntmps11
  go_wp2_with fail
  refine (drsv_any a len cap zs w H.out).mono ?_
  rintro e w1 ⟨v, L, at', x, y, rfl, hR, hL4, hL9, hb1⟩
  have V1 := Lib.hid (LS.start (x := x) (y := y) hb1 hR 27)
  obtain ⟨av, cv, rfl⟩ : ∃ av cv, v = .slice av L.length cv := by obtain ⟨a0, c0, e, _⟩ := hR; exact ⟨a0, c0, e⟩
  have HL9 := Lib.hid (show ∀ r ∈ L, r.2.length ≤ 1048576 from fun r hr => Nat.le_trans (hL9 r hr) (by omega))
  obtain ⟨L', q, hq⟩ : ∃ L' q, stry L at' (x, y) = (L', q) := ⟨_, _, rfl⟩
  have HQ := Lib.hid hq
  have HLn := Lib.hid (stry_len (i := at') (t := (x, y)) hL4 hL9)
  rw [hq] at HLn
  have hM4 : L'.length ≤ 4 := HLn.out.1
  have HM9 := Lib.hid (show ∀ r ∈ L', r.2.length ≤ 1048576 from fun r hr => Nat.le_trans (HLn.out.2 r hr) (by omega))
  clear hR hb1 hL9 HLn
  go_upto_region 4 with fail
  generalize w1.alloc (.cells #[.int .i64 x, .int .i64 y] 27) = W1 at V1 ⊢
  generalize w1.heap.size = tb at V1 ⊢
  have CI := Lib.hid (isv_any _ L at' x y W1 V1.out.r.weak (by omega) HL9.out)
  rw [hq] at CI
  clear hq
  obtain ⟨t0, t1⟩ := V1.out.t
  go_wp2_with fail
  refine CI.out.mono ?_
  rintro e w2 ⟨v2, rfl, hb2, hG2⟩
  have R2 := Lib.hid (GotSv.rgs hG2)
  have V2 := Lib.hid (V1.out.below hb2)
  obtain ⟨a2, c2, rfl⟩ : ∃ a2 c2, v2 = .slice a2 L'.length c2 := by obtain ⟨a0, c0, e, _⟩ := R2.out; exact ⟨a0, c0, e⟩
  clear hG2 hb2 V1 t0 t1 CI
  have CS := Lib.hid (ssv_any _ L at' x y w2 V2.out.r (by omega) HL9.out)
  rw [HQ.out] at CS
  obtain ⟨t0, t1⟩ := V2.out.t
  go_wp2_with fail
  refine CS.out.mono ?_
  rintro e w3 ⟨v3, rfl, hR3, hb3⟩
  have V3 := Lib.hid (V2.out.below hb3)
  have R3 := Lib.hid (R2.out.below hb3)
  have S3 := Lib.hid hR3
  obtain ⟨a3, c3, rfl⟩ : ∃ a3 c3, v3 = .slice a3 L'.length c3 := by obtain ⟨a0, c0, e, _⟩ := S3.out; exact ⟨a0, c0, e⟩
  clear hR3 hb3 V2 R2 t0 t1 CS
  cases q
  · have hL0 : True := trivial
    go_wp2_with fail
    refine (samergs_any _ _ L' L' w3 R3.out S3.out (by omega) HM9.out).mono ?_
    rw [decide_eq_true rfl]
    rintro e w4 ⟨rfl, hb4⟩
    have V4 := Lib.hid (V3.out.below hb4)
    have R4 := Lib.hid (R3.out.below hb4)
    have S4 := Lib.hid (S3.out.below hb4)
    clear hb4 V3 R3 S3
    go_wp2_with fail
    refine (samergs_any _ _ L' L' w4 R4.out S4.out (by omega) HM9.out).mono ?_
    rw [decide_eq_true rfl]
    rintro e w5 ⟨rfl, hb5⟩
    have V5 := Lib.hid (V4.out.below hb5)
    have R5 := Lib.hid (R4.out.below hb5)
    have S5 := Lib.hid (S4.out.below hb5)
    clear hb5 V4 R4 S4
    go_wp2_with fail
    go_ret
    exact ⟨rfl, V5.out.bel⟩
  · have h1 := stry_acc (L := L) (i := at') (t := (x, y)) (by rw [HQ.out])
    rw [HQ.out] at h1
    obtain ⟨hg, hh, hln, hsm, _, _⟩ := h1
    obtain ⟨p, rfl⟩ : ∃ p : Nat, at' = (p : Int) := ⟨at'.toNat, by omega⟩
    have HA : Hid (∀ j : Nat, j ≠ p → j < L.length → L'.getD j rgD = L.getD j rgD) := Lib.hid (fun j h1 h2 => hsm j (by omega) h2)
    have HH := Lib.hid hh
    have HLN := Lib.hid hln
    clear hg hh hln hsm
    go_wp2_with fail
    refine (samergs_any _ _ L' L' w3 R3.out S3.out (by omega) HM9.out).mono ?_
    rw [decide_eq_true rfl]
    rintro e w4 ⟨rfl, hb4⟩
    have V4 := Lib.hid (V3.out.below hb4)
    have R4 := Lib.hid (R3.out.below hb4)
    have S4 := Lib.hid (S3.out.below hb4)
    clear hb4 V3 R3 S3
    go_wp2_with fail
    go_loopw [10] (fun iv wr => ∃ j : Nat, j ≤ L.length ∧ iv = .int .i64 (j : Int) ∧ Hid (LS w wr tb (.slice av L.length cv) L x y) ∧ Hid (Rgs False wr (.slice a2 L'.length c2) L')) (fun iv _ => L.length - (intOf iv).toNat)
    case atStart => exact ⟨0, Nat.zero_le _, rfl, V4, R4⟩
    case round =>
      obtain ⟨j, hj, rfl, HV, HR⟩ := hrel
      by_cases hlt : j < L.length
      · have hlt' : (j : Int) < (L.length : Int) := by omega
        have hlt2 : (j : Int) < (L'.length : Int) := by have := HLN.out; omega
        by_cases hjp : j = p
        · have hjp' : ((j : Int) != (p : Int)) = false := by rw [hjp]; simp
          go_upto_region 11 with fail
          refine up_region wr (Below.refl _ _) (by kernel_rfl) (by kernel_rfl) ?_
          repeat (go_big_quiet_step ((go_at_call 18; fail)))
          refine wpQuiet_nil ?_
          rintro _ ⟨⟨W2, hb2⟩, rfl⟩
          have HV5 := Lib.hid (HV.out.below hb2)
          have HR5 := Lib.hid (HR.out.below hb2)
          clear hb2
          go_wp2_with fail
          go_roundw
          case rel => exact ⟨j + 1, by omega, by go_num, HV5, HR5⟩
          case measure => simp [intOf]; omega
        · have hjp' : ((j : Int) != (p : Int)) = true := by rw [bne_iff_ne]; omega
          have HE := Lib.hid (HA.out j hjp hlt)
          obtain ⟨b1, d1, e1, _, hx1⟩ := HV.out.r
          obtain ⟨g, o, hb1, hc⟩ := hx1 (by rintro rfl; simp at hlt)
          injection e1 with f1 f2 f3
          subst f1
          subst f3
          subst hb1
          clear f2
          obtain ⟨b2, d2, e2, _, hx2⟩ := HR.out
          obtain ⟨g', o', hb2, hc'⟩ := hx2 (by rintro rfl; simp at hlt2; omega)
          injection e2 with f1 f2 f3
          subst f1
          subst f3
          subst hb2
          clear f2
          obtain ⟨s1, hr1⟩ := hc j hlt
          obtain ⟨s2, hr2⟩ := hc' j (by omega)
          rw [HE.out] at hr2
          have hbd := HL9.out _ (takeRg L j hlt).2
          clear hc hc' hx1 hx2
          generalize L.getD j rgD = r at hr1 hr2 hbd
          obtain ⟨n, m⟩ := r
          obtain ⟨d0, d1', t1, _⟩ := hr1
          obtain ⟨e0, e1', t2, _⟩ := hr2
          simp only at d0 d1' e0 e1' hbd t1 t2
          obtain ⟨x1, y1, rfl⟩ : ∃ av cv, s1 = .slice av m.length cv := by obtain ⟨_, _, av, cv, e, _⟩ := t1; exact ⟨av, cv, e⟩
          obtain ⟨x2, y2, rfl⟩ : ∃ av cv, s2 = .slice av m.length cv := by obtain ⟨_, _, av, cv, e, _⟩ := t2; exact ⟨av, cv, e⟩
          have T1 := Lib.hid t1
          have T2 := Lib.hid t2
          have CQ : Hid (∀ m' : Up wr, Calls Try.prog 18 #[.agg #[.int .i64 n, .slice x2 m.length y2], .agg #[.int .i64 n, .slice x1 m.length y1]] m'.w fun e w' => e = .returned (.bool true) ∧ ∃ m'' : Up wr, w' = m''.w) := Lib.hid (by
            rw [show (true : Bool) = decide ((n, m) = (n, m)) from (decide_eq_true rfl).symm]
            exact up_call (fun W hb => samereg_any n n _ _ m m W ((T2.out.below hb).1) ((T1.out.below hb).1) hbd))
          have k0 := Up.cell d0
          have k1 := Up.cell d1'
          have k2 := Up.cell e0
          have k3 := Up.cell e1'
          clear d0 d1' e0 e1' t1 t2
          go_upto_region 11 with fail
          refine up_region wr (Below.refl _ _) (by kernel_rfl) (by kernel_rfl) ?_
          repeat (go_big_quiet_step ((go_at_call 18; exact CQ.out _)))
          refine wpQuiet_nil ?_
          rintro _ ⟨⟨W2, hb2⟩, rfl⟩
          have HV5 := Lib.hid (HV.out.below hb2)
          have HR5 := Lib.hid (HR.out.below hb2)
          clear hb2 k0 k1 k2 k3
          go_wp2_with fail
          go_roundw
          case rel => exact ⟨j + 1, by omega, by go_num, HV5, HR5⟩
          case measure => simp [intOf]; omega
      · have hlt' : ¬ (j : Int) < (L.length : Int) := by omega
        have CI := Lib.hid (ihome_any (L.length : Int) x y wr)
        rw [← HH.out] at CI
        obtain ⟨t0, t1⟩ := HV.out.t
        have hpp : ((p : Int) == (p : Int)) = true := by simp
        have hll : ((L'.length : Int) == (L.length : Int)) = true := by rw [HLN.out]; simp
        have hll2 : (L'.length == L.length) = true := by rw [HLN.out]; simp
        go_wp2_with fail
        refine CI.out.mono ?_
        rintro e w5 ⟨rfl, hb5⟩
        have HV5 := Lib.hid (HV.out.below hb5)
        clear hb5 t0 t1 CI
        go_wp2_with fail
        go_ret
        exact ⟨rfl, HV5.out.bel⟩

end Go.Proofs.Ytjabejljgoafiaa
