/- The law FnRegisterAccept: the walk. -/
import Derived.Test.YtjabejljgoafiaaLawR
import Derived.Deep.CutBlock
namespace Go.Proofs.Ytjabejljgoafiaa
open Go.RowKit
set_option linter.unusedVariables false
set_option linter.unusedSimpArgs false

set_option maxRecDepth 100000 in
set_option maxHeartbeats 8000000 in
theorem accept_walk (a : Option Addr) (len cap : Nat) (zs : List Int) (w : World) (h : IsRow .u8 w a len cap zs) :
    Calls Try.prog 4 #[.slice a len cap] w fun e w' => e = .returned (.bool true) ∧ Below w.heap.size w w' := by
  have H := Lib.hid h
  clear h
  by_cases hl : 1048576 < len
  · go_enter Try.func4, Try.ntmps4
    go_wp2
    go_ret
    exact ⟨rfl, Below.refl _ _⟩
  go_enter Try.func4, Try.ntmps4
  go_wp2_with fail
  refine (drtry_any a len cap zs w H.out).mono ?_
  rintro e w1 ⟨n, x, y, s, l, rfl, hn, hll, hO, hnn, hb1⟩
  have V1 := Lib.hid (LV.start (n := n) (x := x) (y := y) hb1 hO hnn 25 27)
  obtain ⟨ax, cx, rfl⟩ := ownsRow_shape hO
  have HB1 := Lib.hid hb1
  clear hO hnn hb1
  go_upto_region 4 with fail
  generalize ((w1.alloc (.cells #[.int .i64 n, .slice ax l.length cx] 25)).alloc (.cells #[.int .i64 x, .int .i64 y] 27)) = W1 at V1 ⊢
  generalize w1.heap.size + 1 = tb at V1 ⊢
  generalize w1.heap.size = xb at V1 ⊢
  obtain ⟨r, m, q, hq⟩ : ∃ r m q, rtryv (n, l) (x, y) = ((r, m), q) := ⟨_, _, _, rfl⟩
  have HQ := Lib.hid hq
  have hm8 : m.length ≤ 8 := rtryv_len hq
  have CI := Lib.hid (itry_any n x y _ l W1 V1.out.r.t (by omega))
  rw [hq] at CI
  obtain ⟨x0, x1⟩ := V1.out.r.c
  obtain ⟨t0, t1⟩ := V1.out.t
  go_wp2_with fail
  refine CI.out.mono ?_
  rintro e w2 ⟨v2, rfl, hO2, hb2⟩
  obtain ⟨a2, c2, rfl⟩ := ownsRow_shape hO2
  have U2 : Below w2.heap.size w2 (w2.alloc (.cells #[.int .i64 r, .slice a2 m.length c2] 25)) := (Below.refl _ _).alloc (Nat.le_refl _) _
  have V2 := Lib.hid ((V1.out.below hb2).below U2)
  have R2 := Lib.hid (RV.new r hO2 25)
  clear hO2 hb2 U2 V1 x0 x1 t0 t1 CI
  dsimp only at R2
  go_upto_region 5 with fail
  generalize w2.alloc (.cells #[.int .i64 r, .slice a2 m.length c2] 25) = W2 at V2 R2 ⊢
  generalize w2.heap.size = ob at R2 ⊢
  have CS := Lib.hid (stryv_any n x y _ l W2 V2.out.r.t V2.out.nn (by omega))
  rw [hq] at CS
  clear hq
  obtain ⟨x0, x1⟩ := V2.out.r.c
  obtain ⟨t0, t1⟩ := V2.out.t
  go_wp2_with fail
  refine CS.out.mono ?_
  rintro e w3 ⟨v3, rfl, hO3, hb3⟩
  obtain ⟨a3, c3, rfl⟩ := ownsRow_shape hO3
  have U3 : Below w3.heap.size w3 (w3.alloc (.cells #[.int .i64 r, .slice a3 m.length c3] 25)) := (Below.refl _ _).alloc (Nat.le_refl _) _
  have V3 := Lib.hid ((V2.out.below hb3).below U3)
  have R3 := Lib.hid ((R2.out.below hb3).below U3)
  have S3 := Lib.hid (RV.new r hO3 25)
  clear hO3 hb3 U3 V2 R2 x0 x1 t0 t1 CS
  dsimp only at S3
  go_upto_region 6 with fail
  generalize w3.alloc (.cells #[.int .i64 r, .slice a3 m.length c3] 25) = W3 at V3 R3 S3 ⊢
  generalize w3.heap.size = wb at S3 ⊢
  cases q
  · obtain ⟨r0, r1⟩ := R3.out.c
    obtain ⟨s0, s1⟩ := S3.out.c
    go_wp2_with fail
    refine (samereg_any r r _ _ m m W3 R3.out.t.1 S3.out.t.1 (by omega)).mono ?_
    rw [decide_eq_true rfl]
    rintro e w4 ⟨rfl, hb4⟩
    have V4 := Lib.hid (V3.out.below hb4)
    have R4 := Lib.hid (R3.out.below hb4)
    have S4 := Lib.hid (S3.out.below hb4)
    clear hb4 r0 r1 s0 s1 V3 R3 S3
    obtain ⟨r0, r1⟩ := R4.out.c
    obtain ⟨s0, s1⟩ := S4.out.c
    go_wp2_with fail
    refine (samereg_any r r _ _ m m w4 R4.out.t.1 S4.out.t.1 (by omega)).mono ?_
    rw [decide_eq_true rfl]
    rintro e w5 ⟨rfl, hb5⟩
    have BE := Lib.hid (V4.out.bel.trans (hb5.mono V4.out.bel.size))
    clear hb5 r0 r1 s0 s1
    go_wp2_with fail
    go_ret
    exact ⟨rfl, BE.out⟩
  · obtain ⟨r0, r1⟩ := R3.out.c
    obtain ⟨s0, s1⟩ := S3.out.c
    go_wp2_with fail
    refine (samereg_any r r _ _ m m W3 R3.out.t.1 S3.out.t.1 (by omega)).mono ?_
    rw [decide_eq_true rfl]
    rintro e w4 ⟨rfl, hb4⟩
    have V4 := Lib.hid (V3.out.below hb4)
    have R4 := Lib.hid (R3.out.below hb4)
    have S4 := Lib.hid (S3.out.below hb4)
    clear hb4 r0 r1 s0 s1 V3 R3 S3
    have HA := Lib.hid (rtryv_acc HQ.out)
    have hrn : r = n := by have := HA.out.2.2.2.2.2.1; exact (Prod.mk.inj this).1
    have hml : Hid (m.length = l.length + 1) := Lib.hid (by have := HA.out.2.2.2.2.2.1; rw [(Prod.mk.inj this).2]; exact ins_len _ _)
    subst hrn
    clear S4
    have hll8 : l.length < 8 := HA.out.2.2.2.1
    go_upto_region 8 with fail
    go_wp2_with fail
    go_loopw [9] (fun iv wr => ∃ j : Nat, j ≤ l.length ∧ iv = .int .i64 (j : Int) ∧ Hid (LV w wr xb tb r (.slice ax l.length cx) l x y) ∧ Hid (RV wr ob r (.slice a2 m.length c2) m)) (fun iv _ => l.length - (intOf iv).toNat)
    case atStart => exact ⟨0, Nat.zero_le _, rfl, V4, R4⟩
    case round =>
      obtain ⟨j, hj, rfl, HV, HR⟩ := hrel
      obtain ⟨x0, x1⟩ := HV.out.r.c
      obtain ⟨t0, t1⟩ := HV.out.t
      by_cases hlt : j < l.length
      · have hlt' : (j : Int) < (l.length : Int) := by omega
        obtain ⟨g, o, rfl, hc⟩ := tics_at HV.out.r.t.1 (show l ≠ [] by rintro rfl; simp at hlt)
        obtain ⟨d0, d1⟩ := hc j hlt
        have HNE : Hid (l.getD j (0, 0) ≠ (x, y)) := Lib.hid fun e => HA.out.2.2.2.2.1 (by rw [← e]; exact (takeT l j hlt).2)
        clear hc
        generalize l.getD j (0, 0) = z at d0 d1 HNE
        obtain ⟨zx, zy⟩ := z
        obtain ⟨b1, hb1⟩ : ∃ b, (zx == x) = b := ⟨_, rfl⟩
        obtain ⟨b2, hb2⟩ : ∃ b, (zy == y) = b := ⟨_, rfl⟩
        have HB := Lib.hid (And.intro hb1 hb2)
        cases b1 <;> cases b2
        · go_wp2_with fail
          go_quiet (fail)
          have HV2 := Lib.hid (HV.out.below (below_drewN' (Below.refl _ _) nq))
          have HR2 := Lib.hid (HR.out.below (below_drewN' (Below.refl _ _) nq))
          go_wp2_with fail
          go_roundw
          case rel => exact ⟨j + 1, by omega, by go_num, HV2, HR2⟩
          case measure => simp [intOf]; omega
        · go_wp2_with fail
          go_quiet (fail)
          have HV2 := Lib.hid (HV.out.below (below_drewN' (Below.refl _ _) nq))
          have HR2 := Lib.hid (HR.out.below (below_drewN' (Below.refl _ _) nq))
          go_wp2_with fail
          go_roundw
          case rel => exact ⟨j + 1, by omega, by go_num, HV2, HR2⟩
          case measure => simp [intOf]; omega
        · go_wp2_with fail
          go_quiet (fail)
          have HV2 := Lib.hid (HV.out.below (below_drewN' (Below.refl _ _) nq))
          have HR2 := Lib.hid (HR.out.below (below_drewN' (Below.refl _ _) nq))
          go_wp2_with fail
          go_roundw
          case rel => exact ⟨j + 1, by omega, by go_num, HV2, HR2⟩
          case measure => simp [intOf]; omega
        · exact absurd (by have h1 := HB.out.1; have h2 := HB.out.2; rw [beq_iff_eq] at h1 h2; rw [h1, h2]) HNE.out
      · have hlt' : ¬ (j : Int) < (l.length : Int) := by omega
        obtain ⟨r0, r1⟩ := HR.out.c
        have h1 : y ≤ r := HA.out.2.2.1.2
        have h2 : r - 10 ≤ y := HA.out.2.2.1.1
        have d1 := decide_eq_true h1
        have d2 := decide_eq_true h2
        have hw1 : IntKind.i64.wrap (r - 10) = r - 10 := IntWalk.i64_in _ (by omega)
        have hw2 : IntKind.i64.wrap ((l.length : Int) + 1) = (l.length : Int) + 1 := IntWalk.i64_in _ (by omega)
        have d3 : ((m.length : Int) == (l.length : Int) + 1) = true := by rw [beq_iff_eq]; have := hml.out; omega
        have CV := Lib.hid (ireg_any r _ m wr HR.out.t.1 (by omega))
        rw [decide_eq_true HA.out.2.2.2.2.2.2] at CV
        go_wp2_with fail
        refine CV.out.mono ?_
        rintro e w6 ⟨rfl, hb6⟩
        have BF := Lib.hid (HV.out.bel.trans (hb6.mono HV.out.bel.size))
        clear hb6
        go_wp2_with fail
        go_ret
        exact ⟨rfl, BF.out⟩

end Go.Proofs.Ytjabejljgoafiaa
