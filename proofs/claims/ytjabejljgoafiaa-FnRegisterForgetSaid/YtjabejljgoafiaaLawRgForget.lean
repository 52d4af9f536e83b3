/- The law FnRegisterForget: the walk. -/
import Derived.Test.YtjabejljgoafiaaLawR
import Derived.Deep.CutBlock
namespace Go.Proofs.Ytjabejljgoafiaa
open Go.RowKit
set_option linter.unusedVariables false
set_option linter.unusedSimpArgs false

set_option maxRecDepth 100000 in
set_option maxHeartbeats 8000000 in
theorem forget_walk (a : Option Addr) (len cap : Nat) (zs : List Int) (w : World) (h : IsRow .u8 w a len cap zs) :
    Calls Try.prog 6 #[.slice a len cap] w fun e w' => e = .returned (.bool true) ∧ Below w.heap.size w w' := by
  have H := Lib.hid h
  clear h
  by_cases hl : 1048576 < len
  · go_enter Try.func6, Try.ntmps6
    go_wp2
    go_ret
    exact ⟨rfl, Below.refl _ _⟩
  go_enter Try.func6, Try.ntmps6
  go_wp2_with fail
  refine (drtick_any a len cap zs w H.out).mono ?_
  rintro e w1 ⟨n, now, s, l, rfl, hn, hnow, hll, hO, hnn, hb1⟩
  have V1 := Lib.hid (LT.start (n := n) hb1 hO hnn 25)
  obtain ⟨ax, cx, rfl⟩ := ownsRow_shape hO
  clear hO hnn hb1
  go_upto_region 4 with fail
  generalize (w1.alloc (.cells #[.int .i64 n, .slice ax l.length cx] 25)) = W1 at V1 ⊢
  generalize w1.heap.size = xb at V1 ⊢
  obtain ⟨r, m, q, hq⟩ : ∃ r m q, rtickv (n, l) now = ((r, m), q) := ⟨_, _, _, rfl⟩
  have HQ := Lib.hid hq
  have hm8 : m.length ≤ 8 := rtickv_len hq
  have CI := Lib.hid (itick_any n now _ l W1 V1.out.r.t.1 (by omega))
  rw [hq] at CI
  obtain ⟨x0, x1⟩ := V1.out.r.c
  go_wp2_with fail
  refine CI.out.mono ?_
  rintro e w2 ⟨v2, rfl, hO2, hb2⟩
  obtain ⟨a2, c2, rfl⟩ := ownsRow_shape hO2
  have U2 : Below w2.heap.size w2 (w2.alloc (.cells #[.int .i64 r, .slice a2 m.length c2] 25)) := (Below.refl _ _).alloc (Nat.le_refl _) _
  have V2 := Lib.hid ((V1.out.below hb2).below U2)
  have R2 := Lib.hid (RV.new r hO2 25)
  clear hO2 hb2 U2 V1 x0 x1 CI
  dsimp only at R2
  go_upto_region 5 with fail
  generalize w2.alloc (.cells #[.int .i64 r, .slice a2 m.length c2] 25) = W2 at V2 R2 ⊢
  generalize w2.heap.size = ob at R2 ⊢
  have CS := Lib.hid (stickv_any n now _ l W2 V2.out.r.t.1 (by omega))
  rw [hq] at CS
  clear hq
  obtain ⟨x0, x1⟩ := V2.out.r.c
  go_wp2_with fail
  refine CS.out.mono ?_
  rintro e w3 ⟨v3, rfl, hO3, hb3⟩
  obtain ⟨a3, c3, rfl⟩ := ownsRow_shape hO3
  have U3 : Below w3.heap.size w3 (w3.alloc (.cells #[.int .i64 r, .slice a3 m.length c3] 25)) := (Below.refl _ _).alloc (Nat.le_refl _) _
  have V3 := Lib.hid ((V2.out.below hb3).below U3)
  have R3 := Lib.hid ((R2.out.below hb3).below U3)
  have S3 := Lib.hid (RV.new r hO3 25)
  clear hO3 hb3 U3 V2 R2 x0 x1 CS
  dsimp only at S3
  go_upto_region 6 with fail
  generalize w3.alloc (.cells #[.int .i64 r, .slice a3 m.length c3] 25) = W3 at V3 R3 S3 ⊢
  generalize w3.heap.size = wb at S3 ⊢
  cases q
  · obtain ⟨r0, r1⟩ := R3.out.c
    obtain ⟨s0, s1⟩ := S3.out.c
    go_wp2_with fail
    refine (samereg_any r r _ _ m m W3 R3.out.t.1 S3.out.t.1 (by omega)).mono ?_
    rw [decide_eq_true rfl]
    rintro e w4 ⟨rfl, hb4⟩
    have V4 := Lib.hid (V3.out.below hb4)
    have R4 := Lib.hid (R3.out.below hb4)
    have S4 := Lib.hid (S3.out.below hb4)
    clear hb4 r0 r1 s0 s1 V3 R3 S3
    obtain ⟨r0, r1⟩ := R4.out.c
    obtain ⟨s0, s1⟩ := S4.out.c
    go_wp2_with fail
    refine (samereg_any r r _ _ m m w4 R4.out.t.1 S4.out.t.1 (by omega)).mono ?_
    rw [decide_eq_true rfl]
    rintro e w5 ⟨rfl, hb5⟩
    have BE := Lib.hid (V4.out.bel.trans (hb5.mono V4.out.bel.size))
    clear hb5 r0 r1 s0 s1
    go_wp2_with fail
    go_ret
    exact ⟨rfl, BE.out⟩
  · obtain ⟨r0, r1⟩ := R3.out.c
    obtain ⟨s0, s1⟩ := S3.out.c
    go_wp2_with fail
    refine (samereg_any r r _ _ m m W3 R3.out.t.1 S3.out.t.1 (by omega)).mono ?_
    rw [decide_eq_true rfl]
    rintro e w4 ⟨rfl, hb4⟩
    have V4 := Lib.hid (V3.out.below hb4)
    have R4 := Lib.hid (R3.out.below hb4)
    have S4 := Lib.hid (S3.out.below hb4)
    clear hb4 r0 r1 s0 s1 V3 R3 S3
    have HA := Lib.hid (rtickv_acc HQ.out)
    have hrn : r = now := by have := HA.out.2.2.1; exact (Prod.mk.inj this).1
    subst hrn
    have hml : Hid (m.length ≤ l.length) := Lib.hid (by have := HA.out.2.2.1; rw [(Prod.mk.inj this).2]; exact List.length_filter_le _ _)
    clear S4
    have hll8 : l.length ≤ 8 := HA.out.1.2.1
    go_upto_region 8 with fail
    go_wp2_with fail
    go_loopw [9] (fun iv wr => ∃ j : Nat, j ≤ l.length ∧ iv = .int .i64 (j : Int) ∧ Hid (LT w wr xb n (.slice ax l.length cx) l) ∧ Hid (RV wr ob r (.slice a2 m.length c2) m)) (fun iv _ => l.length - (intOf iv).toNat)
    case atStart => exact ⟨0, Nat.zero_le _, rfl, V4, R4⟩
    case round =>
      obtain ⟨j, hj, rfl, HV, HR⟩ := hrel
      obtain ⟨x0, x1⟩ := HV.out.r.c
      by_cases hlt : j < l.length
      · have hlt' : (j : Int) < (l.length : Int) := by omega
        obtain ⟨g, o, rfl, hc⟩ := tics_at HV.out.r.t.1 (show l ≠ [] by rintro rfl; simp at hlt)
        obtain ⟨d0, d1⟩ := hc j hlt
        obtain ⟨r0, r1⟩ := HR.out.c
        have HMEM := Lib.hid (takeT l j hlt).2
        clear hc
        generalize l.getD j (0, 0) = z at d0 d1 HMEM
        obtain ⟨zx, zy⟩ := z
        obtain ⟨r8, m8, q8, hq8⟩ : ∃ r8 m8 q8, rtryv (r, m) (zx, zy) = ((r8, m8), q8) := ⟨_, _, _, rfl⟩
        have hqf : q8 = false := forget_no HQ.out HMEM.out hq8
        subst hqf
        have KS := Lib.hid (fun (W : World) (hb : Below wr.heap.size wr W) => And.intro ((hb.cell (World.block_lt_of_cell? _ _ r0)).trans r0) (And.intro ((hb.cell (World.block_lt_of_cell? _ _ r1)).trans r1) (And.intro ((hb.cell (World.block_lt_of_cell? _ _ x1)).trans x1) (And.intro ((hb.cell (World.block_lt_of_cell? _ _ d0)).trans d0) ((hb.cell (World.block_lt_of_cell? _ _ d1)).trans d1)))))
        have BA : Hid (Below wr.heap.size wr wr.drew) := Lib.hid (Below.refl _ _).drew
        have BB : Hid (Below wr.heap.size wr (wr.alloc (.cells #[.int .i64 0, .slice none 0 0] 25)).drew) := Lib.hid ((Below.refl _ _).alloc (Nat.le_refl _) _).drew
        have C1 := Lib.hid (itry_any r zx zy _ m wr.drew (HR.out.t.below BA.out) (by omega))
        have C2 := Lib.hid (itry_any r zx zy _ m (wr.alloc (.cells #[.int .i64 0, .slice none 0 0] 25)).drew (HR.out.t.below BB.out) (by omega))
        rw [hq8] at C1 C2
        clear hq8
        have kA := KS.out _ BA.out
        have kB := KS.out _ BB.out
        have ZB := Lib.hid ((RgV.new wr 0 (.slice none 0 0) 25).below (Below.refl _ _).drew)
        have ZF := Lib.hid ((Soft.new wr #[.int .i64 0, .slice none 0 0] 25).below (Below.refl _ _).drew (by simp))
        have hsB : Hid (wr.heap.size ≤ (wr.alloc (.cells #[.int .i64 0, .slice none 0 0] 25)).drew.heap.size) := Lib.hid BB.out.size
        go_wp2_with fail
        go_region_held3 (fun W => W.cell? ⟨ob, 0, none⟩ = some (.int .i64 r) ∧ W.cell? ⟨ob, 1, none⟩ = some (.slice a2 m.length c2) ∧ W.cell? ⟨xb, 1, none⟩ = some (.slice (some ⟨g, o, none⟩) l.length cx) ∧ W.cell? ⟨g, o + j * 2, none⟩ = some (.int .i64 zx) ∧ W.cell? ⟨g, o + j * 2 + 1, none⟩ = some (.int .i64 zy)) (with_reducible first | assumption | exact kA | exact kB | exact k8 | exact k8a | exact k9)
          ((first
            | (go_at_call 16; (with_reducible refine C1.out.mono ?_); rintro e w8 ⟨v8, rfl, hO8, hb8⟩; obtain ⟨a8, c8, rfl⟩ := ownsRow_shape hO8; have B8 := Lib.hid (BA.out.trans hb8); have k8 := KS.out _ B8.out; have k8a := KS.out _ (B8.out.alloc B8.out.size (.cells #[.int .i64 0, .slice none 0 0] 25)); have BE := Lib.hid (B8.out.alloc B8.out.size (.cells #[.int .i64 r8, .slice a8 m8.length c8] 25)); have k9 := KS.out _ BE.out)
            | (go_at_call 16; (with_reducible refine C2.out.mono ?_); rintro e w8 ⟨v8, rfl, hO8, hb8⟩; obtain ⟨a8, c8, rfl⟩ := ownsRow_shape hO8; have B8 := Lib.hid (BB.out.trans (hb8.mono hsB.out)); have k8 := KS.out _ B8.out; have Z8 := ZB.out.below hb8; have G8 := ZF.out.below hb8 ZB.out.lt; have z0 := Z8.c0; have z1 := Z8.c1; have f0 := G8 0; have f1 := G8 1; have BE := Lib.hid ((B8.out.setCell (p := ⟨wr.heap.size, 0, none⟩) (Nat.le_refl _) (.int .i64 r8)).setCell (p := ⟨wr.heap.size, 1, none⟩) (Nat.le_refl _) (.slice a8 m8.length c8)); have k9 := KS.out _ BE.out)))
        all_goals
          have HV2 := Lib.hid (HV.out.below BE.out)
          have HR2 := Lib.hid (HR.out.below BE.out)
          go_wp2_with fail
          go_roundw
          case rel => exact ⟨j + 1, by omega, by go_num, HV2, HR2⟩
          case measure => simp [intOf]; omega
      · have hlt' : ¬ (j : Int) < (l.length : Int) := by omega
        obtain ⟨r0, r1⟩ := HR.out.c
        have CV := Lib.hid (ireg_any r _ m wr HR.out.t.1 (by omega))
        rw [decide_eq_true HA.out.2.2.2] at CV
        go_wp2_with fail
        refine CV.out.mono ?_
        rintro e w6 ⟨rfl, hb6⟩
        have HV6 := Lib.hid (HV.out.below hb6)
        have HR6 := Lib.hid (HR.out.below hb6)
        have hle : (m.length : Int) ≤ (l.length : Int) := by have := hml.out; omega
        have d1 := decide_eq_true hle
        have d2 : decide (m.length ≤ l.length) = true := decide_eq_true hml.out
        clear hb6 x0 x1 r0 r1
        obtain ⟨x0, x1⟩ := HV6.out.r.c
        obtain ⟨r0, r1⟩ := HR6.out.c
        go_wp2_with fail
        go_ret
        exact ⟨by simp [hml.out], HV6.out.bel⟩

end Go.Proofs.Ytjabejljgoafiaa
