/- The law FnRegisterOnce: the walk. -/
import Derived.Test.YtjabejljgoafiaaLawR
import Derived.Deep.CutBlock
namespace Go.Proofs.Ytjabejljgoafiaa
open Go.RowKit
set_option linter.unusedVariables false
set_option linter.unusedSimpArgs false

set_option maxRecDepth 100000 in
set_option maxHeartbeats 8000000 in
theorem once_walk (a : Option Addr) (len cap : Nat) (zs : List Int) (w : World) (h : IsRow .u8 w a len cap zs) :
    Calls Try.prog 3 #[.slice a len cap] w fun e w' => e = .returned (.bool true) ∧ Below w.heap.size w w' := by
  have H := Lib.hid h
  clear h
  by_cases hl : 1048576 < len
  · go_enter Try.func3, Try.ntmps3
    go_wp2
    go_ret
    exact ⟨rfl, Below.refl _ _⟩
  go_enter Try.func3, Try.ntmps3
  go_wp2_with fail
  refine (drtry_any a len cap zs w H.out).mono ?_
  rintro e w1 ⟨n, x, y, s, l, rfl, hn, hll, hO, hnn, hb1⟩
  have V1 := Lib.hid (LV.start (n := n) (x := x) (y := y) hb1 hO hnn 25 27)
  obtain ⟨ax, cx, rfl⟩ := ownsRow_shape hO
  have HB1 := Lib.hid hb1
  clear hO hnn hb1
  go_upto_region 4 with fail
  generalize ((w1.alloc (.cells #[.int .i64 n, .slice ax l.length cx] 25)).alloc (.cells #[.int .i64 x, .int .i64 y] 27)) = W1 at V1 ⊢
  generalize w1.heap.size + 1 = tb at V1 ⊢
  generalize w1.heap.size = xb at V1 ⊢
  obtain ⟨r, m, q, hq⟩ : ∃ r m q, rtryv (n, l) (x, y) = ((r, m), q) := ⟨_, _, _, rfl⟩
  have HQ := Lib.hid hq
  have hm8 : m.length ≤ 8 := rtryv_len hq
  have CI := Lib.hid (itry_any n x y _ l W1 V1.out.r.t (by omega))
  rw [hq] at CI
  obtain ⟨x0, x1⟩ := V1.out.r.c
  obtain ⟨t0, t1⟩ := V1.out.t
  go_wp2_with fail
  refine CI.out.mono ?_
  rintro e w2 ⟨v2, rfl, hO2, hb2⟩
  obtain ⟨a2, c2, rfl⟩ := ownsRow_shape hO2
  have U2 : Below w2.heap.size w2 (w2.alloc (.cells #[.int .i64 r, .slice a2 m.length c2] 25)) := (Below.refl _ _).alloc (Nat.le_refl _) _
  have V2 := Lib.hid ((V1.out.below hb2).below U2)
  have R2 := Lib.hid (RV.new r hO2 25)
  clear hO2 hb2 U2 V1 x0 x1 t0 t1 CI
  dsimp only at R2
  go_upto_region 5 with fail
  generalize w2.alloc (.cells #[.int .i64 r, .slice a2 m.length c2] 25) = W2 at V2 R2 ⊢
  generalize w2.heap.size = ob at R2 ⊢
  have CS := Lib.hid (stryv_any n x y _ l W2 V2.out.r.t V2.out.nn (by omega))
  rw [hq] at CS
  clear hq
  obtain ⟨x0, x1⟩ := V2.out.r.c
  obtain ⟨t0, t1⟩ := V2.out.t
  go_wp2_with fail
  refine CS.out.mono ?_
  rintro e w3 ⟨v3, rfl, hO3, hb3⟩
  obtain ⟨a3, c3, rfl⟩ := ownsRow_shape hO3
  have U3 : Below w3.heap.size w3 (w3.alloc (.cells #[.int .i64 r, .slice a3 m.length c3] 25)) := (Below.refl _ _).alloc (Nat.le_refl _) _
  have V3 := Lib.hid ((V2.out.below hb3).below U3)
  have R3 := Lib.hid ((R2.out.below hb3).below U3)
  have S3 := Lib.hid (RV.new r hO3 25)
  clear hO3 hb3 U3 V2 R2 x0 x1 t0 t1 CS
  dsimp only at S3
  go_upto_region 6 with fail
  generalize w3.alloc (.cells #[.int .i64 r, .slice a3 m.length c3] 25) = W3 at V3 R3 S3 ⊢
  generalize w3.heap.size = wb at S3 ⊢
  cases q
  · obtain ⟨r0, r1⟩ := R3.out.c
    obtain ⟨s0, s1⟩ := S3.out.c
    go_wp2_with fail
    refine (samereg_any r r _ _ m m W3 R3.out.t.1 S3.out.t.1 (by omega)).mono ?_
    rw [decide_eq_true rfl]
    rintro e w4 ⟨rfl, hb4⟩
    have V4 := Lib.hid (V3.out.below hb4)
    have R4 := Lib.hid (R3.out.below hb4)
    have S4 := Lib.hid (S3.out.below hb4)
    clear hb4 r0 r1 s0 s1 V3 R3 S3
    obtain ⟨r0, r1⟩ := R4.out.c
    obtain ⟨s0, s1⟩ := S4.out.c
    go_wp2_with fail
    refine (samereg_any r r _ _ m m w4 R4.out.t.1 S4.out.t.1 (by omega)).mono ?_
    rw [decide_eq_true rfl]
    rintro e w5 ⟨rfl, hb5⟩
    have BE := Lib.hid (V4.out.bel.trans (hb5.mono V4.out.bel.size))
    clear hb5 r0 r1 s0 s1
    go_wp2_with fail
    go_ret
    exact ⟨rfl, BE.out⟩
  · obtain ⟨r0, r1⟩ := R3.out.c
    obtain ⟨s0, s1⟩ := S3.out.c
    go_wp2_with fail
    refine (samereg_any r r _ _ m m W3 R3.out.t.1 S3.out.t.1 (by omega)).mono ?_
    rw [decide_eq_true rfl]
    rintro e w4 ⟨rfl, hb4⟩
    have V4 := Lib.hid (V3.out.below hb4)
    have R4 := Lib.hid (R3.out.below hb4)
    have S4 := Lib.hid (S3.out.below hb4)
    clear hb4 r0 r1 s0 s1 V3 R3 S3
    obtain ⟨r0, r1⟩ := R4.out.c
    obtain ⟨t0, t1⟩ := V4.out.t
    have CI := Lib.hid (itry_any r x y _ m w4 R4.out.t (by omega))
    rw [rtryv_once HQ.out] at CI
    go_wp2_with fail
    refine CI.out.mono ?_
    rintro e w5 ⟨v5, rfl, hO5, hb5⟩
    obtain ⟨a5, c5, rfl⟩ := ownsRow_shape hO5
    have U5 : Below w5.heap.size w5 (w5.alloc (.cells #[.int .i64 r, .slice a5 m.length c5] 25)) := (Below.refl _ _).alloc (Nat.le_refl _) _
    have V5 := Lib.hid ((V4.out.below hb5).below U5)
    have R5 := Lib.hid ((R4.out.below hb5).below U5)
    have Y5 := Lib.hid (RV.new r hO5 25)
    clear hO5 hb5 U5 V4 R4 S4 r0 r1 t0 t1 CI
    dsimp only at Y5
    go_upto_region 9 with fail
    generalize w5.alloc (.cells #[.int .i64 r, .slice a5 m.length c5] 25) = W5 at V5 R5 Y5 ⊢
    generalize w5.heap.size = yb at Y5 ⊢
    obtain ⟨r0, r1⟩ := R5.out.c
    obtain ⟨y0, y1⟩ := Y5.out.c
    go_wp2_with fail
    refine (samereg_any r r _ _ m m W5 Y5.out.t.1 R5.out.t.1 (by omega)).mono ?_
    rw [decide_eq_true rfl]
    rintro e w6 ⟨rfl, hb6⟩
    have BE := Lib.hid (V5.out.bel.trans (hb6.mono V5.out.bel.size))
    clear hb6 r0 r1 y0 y1
    go_wp2_with fail
    go_ret
    exact ⟨rfl, BE.out⟩

end Go.Proofs.Ytjabejljgoafiaa
