/- The law FnRegisterOrder: the walk. -/
import Derived.Test.YtjabejljgoafiaaLawR
import Derived.Deep.CutBlock
namespace Go.Proofs.Ytjabejljgoafiaa
open Go.RowKit
set_option linter.unusedVariables false
set_option linter.unusedSimpArgs false

set_option maxRecDepth 100000 in
set_option maxHeartbeats 8000000 in
theorem order_walk (a : Option Addr) (len cap : Nat) (zs : List Int) (a' : Option Addr) (len' cap' : Nat) (zs' : List Int) (w : World) (h : IsRow .u8 w a len cap zs) (h' : IsRow .u8 w a' len' cap' zs') :
    Calls Try.prog 8 #[.slice a len cap, .slice a' len' cap'] w fun e w' => e = .returned (.bool true) ∧ Below w.heap.size w w' := by
  have H := Lib.hid h
  have H' := Lib.hid h'
  clear h h'
  by_cases hl : 1048576 < len
  · go_enter Try.func8, Try.ntmps8
    go_wp2
    go_ret
    exact ⟨rfl, Below.refl _ _⟩
  by_cases hl' : 1048576 < len'
  · go_enter Try.func8, Try.ntmps8
    go_wp2
    go_ret
    exact ⟨rfl, Below.refl _ _⟩
  go_enter Try.func8, Try.ntmps8
  go_wp2_with fail
  refine (drtry_any a len cap zs w H.out).mono ?_
  rintro e w1 ⟨n, x, y, s, l, rfl, hn, hll, hO, hnn, hb1⟩
  have V1 := Lib.hid (LV.start (n := n) (x := x) (y := y) hb1 hO hnn 25 27)
  obtain ⟨ax, cx, rfl⟩ := ownsRow_shape hO
  have HB1 := Lib.hid hb1
  clear hO hnn hb1
  go_upto_region 4 with fail
  generalize ((w1.alloc (.cells #[.int .i64 n, .slice ax l.length cx] 25)).alloc (.cells #[.int .i64 x, .int .i64 y] 27)) = W1 at V1 ⊢
  generalize w1.heap.size + 1 = tb at V1 ⊢
  generalize w1.heap.size = xb at V1 ⊢
  obtain ⟨r, m, q, hq⟩ : ∃ r m q, rtryv (n, l) (x, y) = ((r, m), q) := ⟨_, _, _, rfl⟩
  have HQ := Lib.hid hq
  have hm8 : m.length ≤ 8 := rtryv_len hq
  have CI := Lib.hid (itry_any n x y _ l W1 V1.out.r.t (by omega))
  rw [hq] at CI
  obtain ⟨x0, x1⟩ := V1.out.r.c
  obtain ⟨t0, t1⟩ := V1.out.t
  go_wp2_with fail
  refine CI.out.mono ?_
  rintro e w2 ⟨v2, rfl, hO2, hb2⟩
  obtain ⟨a2, c2, rfl⟩ := ownsRow_shape hO2
  have U2 : Below w2.heap.size w2 (w2.alloc (.cells #[.int .i64 r, .slice a2 m.length c2] 25)) := (Below.refl _ _).alloc (Nat.le_refl _) _
  have V2 := Lib.hid ((V1.out.below hb2).below U2)
  have R2 := Lib.hid (RV.new r hO2 25)
  clear hO2 hb2 U2 V1 x0 x1 t0 t1 CI
  dsimp only at R2
  go_upto_region 5 with fail
  generalize w2.alloc (.cells #[.int .i64 r, .slice a2 m.length c2] 25) = W2 at V2 R2 ⊢
  generalize w2.heap.size = ob at R2 ⊢
  have CS := Lib.hid (stryv_any n x y _ l W2 V2.out.r.t V2.out.nn (by omega))
  rw [hq] at CS
  clear hq
  obtain ⟨x0, x1⟩ := V2.out.r.c
  obtain ⟨t0, t1⟩ := V2.out.t
  go_wp2_with fail
  refine CS.out.mono ?_
  rintro e w3 ⟨v3, rfl, hO3, hb3⟩
  obtain ⟨a3, c3, rfl⟩ := ownsRow_shape hO3
  have U3 : Below w3.heap.size w3 (w3.alloc (.cells #[.int .i64 r, .slice a3 m.length c3] 25)) := (Below.refl _ _).alloc (Nat.le_refl _) _
  have V3 := Lib.hid ((V2.out.below hb3).below U3)
  have R3 := Lib.hid ((R2.out.below hb3).below U3)
  have S3 := Lib.hid (RV.new r hO3 25)
  clear hO3 hb3 U3 V2 R2 x0 x1 t0 t1 CS
  dsimp only at S3
  go_upto_region 6 with fail
  generalize w3.alloc (.cells #[.int .i64 r, .slice a3 m.length c3] 25) = W3 at V3 R3 S3 ⊢
  generalize w3.heap.size = wb at S3 ⊢
  cases q
  · obtain ⟨r0, r1⟩ := R3.out.c
    obtain ⟨s0, s1⟩ := S3.out.c
    go_wp2_with fail
    refine (samereg_any r r _ _ m m W3 R3.out.t.1 S3.out.t.1 (by omega)).mono ?_
    rw [decide_eq_true rfl]
    rintro e w4 ⟨rfl, hb4⟩
    have V4 := Lib.hid (V3.out.below hb4)
    have R4 := Lib.hid (R3.out.below hb4)
    have S4 := Lib.hid (S3.out.below hb4)
    clear hb4 r0 r1 s0 s1 V3 R3 S3
    obtain ⟨r0, r1⟩ := R4.out.c
    obtain ⟨s0, s1⟩ := S4.out.c
    go_wp2_with fail
    refine (samereg_any r r _ _ m m w4 R4.out.t.1 S4.out.t.1 (by omega)).mono ?_
    rw [decide_eq_true rfl]
    rintro e w5 ⟨rfl, hb5⟩
    have BE := Lib.hid (V4.out.bel.trans (hb5.mono V4.out.bel.size))
    clear hb5 r0 r1 s0 s1
    go_wp2_with fail
    go_ret
    exact ⟨rfl, BE.out⟩
  · obtain ⟨r0, r1⟩ := R3.out.c
    obtain ⟨s0, s1⟩ := S3.out.c
    go_wp2_with fail
    refine (samereg_any r r _ _ m m W3 R3.out.t.1 S3.out.t.1 (by omega)).mono ?_
    rw [decide_eq_true rfl]
    rintro e w4 ⟨rfl, hb4⟩
    have V4 := Lib.hid (V3.out.below hb4)
    have R4 := Lib.hid (R3.out.below hb4)
    have S4 := Lib.hid (S3.out.below hb4)
    clear hb4 r0 r1 s0 s1 V3 R3 S3
    clear S4
    have H2 := Lib.hid (H'.out.keep (w' := w4) fun p hp hc i v hv => (V4.out.bel.cell (World.block_lt_of_cell? _ _ hv)).trans hv)
    go_wp2_with fail
    refine (drtry_any a' len' cap' zs' w4 H2.out).mono ?_
    rintro e w5 ⟨n', ux, uy, s', l', rfl, hn', hll', hO', hnn', hb5⟩
    have V5 := Lib.hid (V4.out.below hb5)
    have R5 := Lib.hid (R4.out.below hb5)
    have K5 := Lib.hid (LV.start (n := n') (x := ux) (y := uy) (hb5) hO' hnn' 25 27)
    have UU : Below w5.heap.size w5 ((w5.alloc (.cells #[.int .i64 n', s'] 25)).alloc (.cells #[.int .i64 ux, .int .i64 uy] 27)) := ((Below.refl _ _).alloc (Nat.le_refl _) _).alloc (by simp) _
    have V := Lib.hid (V5.out.below UU)
    have R := Lib.hid (R5.out.below UU)
    have K := Lib.hid K5.out.t
    obtain ⟨ax', cx', rfl⟩ := ownsRow_shape hO'
    clear hO' hnn' hb5 V5 R5 K5 UU V4 R4 H2
    go_upto_region 9 with fail
    generalize ((w5.alloc (.cells #[.int .i64 n', .slice ax' l'.length cx'] 25)).alloc (.cells #[.int .i64 ux, .int .i64 uy] 27)) = W5 at V R K ⊢
    generalize w5.heap.size + 1 = ub at K ⊢
    obtain ⟨r2, m2, q2, hq2⟩ : ∃ r2 m2 q2, rtryv (r, m) (ux, uy) = ((r2, m2), q2) := ⟨_, _, _, rfl⟩
    have hm28 : m2.length ≤ 8 := rtryv_len hq2
    obtain ⟨u0, u1⟩ := K.out
    obtain ⟨i0, i1⟩ := R.out.c
    have CX := Lib.hid (itry_any r ux uy _ m W5 R.out.t (by omega))
    rw [hq2] at CX
    go_wp2_with fail
    refine CX.out.mono ?_
    rintro e w6 ⟨vn, rfl, hOn, hbn⟩
    obtain ⟨Ya, Yc, rfl⟩ := ownsRow_shape hOn
    have Un : Below w6.heap.size w6 (w6.alloc (.cells #[.int .i64 r2, .slice Ya m2.length Yc] 25)) := (Below.refl _ _).alloc (Nat.le_refl _) _
    have V2 := Lib.hid ((V.out.below hbn).below Un)
    have K2 := Lib.hid ((K.out.below hbn).below Un)
    have Y := Lib.hid (RV.new r2 hOn 25)
    clear hOn hbn Un CX i0 i1 V K R u0 u1
    have K := K2
    clear K2
    have V := V2
    clear V2
    dsimp only at Y
    go_upto_region 10 with fail
    generalize w6.alloc (.cells #[.int .i64 r2, .slice Ya m2.length Yc] 25) = w6X at V K Y ⊢
    generalize w6.heap.size = Yb at Y ⊢
    cases q2
    · have BE := Lib.hid V.out.bel
      go_wp2_with fail
      go_ret
      exact ⟨rfl, BE.out⟩
    · obtain ⟨⟨r3, m3⟩, h3, h4⟩ := rtryv_order HQ.out hq2
      have hm38 : m3.length ≤ 8 := rtryv_len h3
      clear hq2
      obtain ⟨u0, u1⟩ := K.out
      have VR := Lib.hid V.out.r
      obtain ⟨i0, i1⟩ := VR.out.c
      have CX := Lib.hid (itry_any n ux uy _ l w6X VR.out.t (by omega))
      rw [h3] at CX
      go_wp2_with fail
      refine CX.out.mono ?_
      rintro e w7 ⟨vn, rfl, hOn, hbn⟩
      obtain ⟨Aa, Ac, rfl⟩ := ownsRow_shape hOn
      have Un : Below w7.heap.size w7 (w7.alloc (.cells #[.int .i64 r3, .slice Aa m3.length Ac] 25)) := (Below.refl _ _).alloc (Nat.le_refl _) _
      have V2 := Lib.hid ((V.out.below hbn).below Un)
      have Y2 := Lib.hid ((Y.out.below hbn).below Un)
      have A := Lib.hid (RV.new r3 hOn 25)
      clear hOn hbn Un CX i0 i1 V Y K u0 u1 VR h3
      have V := V2
      clear V2
      have Y := Y2
      clear Y2
      dsimp only at A
      go_upto_region 13 with fail
      generalize w7.alloc (.cells #[.int .i64 r3, .slice Aa m3.length Ac] 25) = w7X at V Y A ⊢
      generalize w7.heap.size = Ab at A ⊢
      obtain ⟨t0, t1⟩ := V.out.t
      obtain ⟨i0, i1⟩ := A.out.c
      have CX := Lib.hid (itry_any r3 x y _ m3 w7X A.out.t (by omega))
      rw [h4] at CX
      go_wp2_with fail
      refine CX.out.mono ?_
      rintro e w8 ⟨vn, rfl, hOn, hbn⟩
      obtain ⟨Ba, Bc, rfl⟩ := ownsRow_shape hOn
      have Un : Below w8.heap.size w8 (w8.alloc (.cells #[.int .i64 r2, .slice Ba m2.length Bc] 25)) := (Below.refl _ _).alloc (Nat.le_refl _) _
      have V2 := Lib.hid ((V.out.below hbn).below Un)
      have Y2 := Lib.hid ((Y.out.below hbn).below Un)
      have B := Lib.hid (RV.new r2 hOn 25)
      clear hOn hbn Un CX i0 i1 V Y t0 t1 A h4
      have V := V2
      clear V2
      have Y := Y2
      clear Y2
      dsimp only at B
      go_upto_region 14 with fail
      generalize w8.alloc (.cells #[.int .i64 r2, .slice Ba m2.length Bc] 25) = w8X at V Y B ⊢
      generalize w8.heap.size = Bb at B ⊢
      obtain ⟨y0, y1⟩ := Y.out.c
      obtain ⟨b0, b1⟩ := B.out.c
      go_wp2_with fail
      refine (samereg_any r2 r2 _ _ m2 m2 w8X B.out.t.1 Y.out.t.1 (by omega)).mono ?_
      rw [decide_eq_true rfl]
      rintro e w9 ⟨rfl, hb9⟩
      have BE := Lib.hid (V.out.bel.trans (hb9.mono V.out.bel.size))
      clear hb9 y0 y1 b0 b1
      go_wp2_with fail
      go_ret
      exact ⟨rfl, BE.out⟩

end Go.Proofs.Ytjabejljgoafiaa
