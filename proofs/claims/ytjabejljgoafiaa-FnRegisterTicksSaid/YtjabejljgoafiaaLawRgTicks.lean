/- The law FnRegisterTicks: the walk. -/
import Derived.Test.YtjabejljgoafiaaLawR
import Derived.Deep.CutBlock
namespace Go.Proofs.Ytjabejljgoafiaa
open Go.RowKit
set_option linter.unusedVariables false
set_option linter.unusedSimpArgs false

set_option maxRecDepth 100000 in
set_option maxHeartbeats 8000000 in
theorem ticks_walk (a : Option Addr) (len cap : Nat) (zs : List Int) (a' : Option Addr) (len' cap' : Nat) (zs' : List Int) (w : World) (h : IsRow .u8 w a len cap zs) (h' : IsRow .u8 w a' len' cap' zs') :
    Calls Try.prog 7 #[.slice a len cap, .slice a' len' cap'] w fun e w' => e = .returned (.bool true) ∧ Below w.heap.size w w' := by
  have H := Lib.hid h
  have H' := Lib.hid h'
  clear h h'
  by_cases hl : 1048576 < len
  · go_enter Try.func7, Try.ntmps7
    go_wp2
    go_ret
    exact ⟨rfl, Below.refl _ _⟩
  by_cases hl' : 1048576 < len'
  · go_enter Try.func7, Try.ntmps7
    go_wp2
    go_ret
    exact ⟨rfl, Below.refl _ _⟩
  go_enter Try.func7, Try.ntmps7
  go_wp2_with fail
  refine (drtick_any a len cap zs w H.out).mono ?_
  rintro e w1 ⟨n, now, s, l, rfl, hn, hnow, hll, hO, hnn, hb1⟩
  have V1 := Lib.hid (LT.start (n := n) hb1 hO hnn 25)
  obtain ⟨ax, cx, rfl⟩ := ownsRow_shape hO
  clear hO hnn hb1
  go_upto_region 4 with fail
  generalize (w1.alloc (.cells #[.int .i64 n, .slice ax l.length cx] 25)) = W1 at V1 ⊢
  generalize w1.heap.size = xb at V1 ⊢
  obtain ⟨r, m, q, hq⟩ : ∃ r m q, rtickv (n, l) now = ((r, m), q) := ⟨_, _, _, rfl⟩
  have HQ := Lib.hid hq
  have hm8 : m.length ≤ 8 := rtickv_len hq
  have CI := Lib.hid (itick_any n now _ l W1 V1.out.r.t.1 (by omega))
  rw [hq] at CI
  obtain ⟨x0, x1⟩ := V1.out.r.c
  go_wp2_with fail
  refine CI.out.mono ?_
  rintro e w2 ⟨v2, rfl, hO2, hb2⟩
  obtain ⟨a2, c2, rfl⟩ := ownsRow_shape hO2
  have U2 : Below w2.heap.size w2 (w2.alloc (.cells #[.int .i64 r, .slice a2 m.length c2] 25)) := (Below.refl _ _).alloc (Nat.le_refl _) _
  have V2 := Lib.hid ((V1.out.below hb2).below U2)
  have R2 := Lib.hid (RV.new r hO2 25)
  clear hO2 hb2 U2 V1 x0 x1 CI
  dsimp only at R2
  go_upto_region 5 with fail
  generalize w2.alloc (.cells #[.int .i64 r, .slice a2 m.length c2] 25) = W2 at V2 R2 ⊢
  generalize w2.heap.size = ob at R2 ⊢
  have CS := Lib.hid (stickv_any n now _ l W2 V2.out.r.t.1 (by omega))
  rw [hq] at CS
  clear hq
  obtain ⟨x0, x1⟩ := V2.out.r.c
  go_wp2_with fail
  refine CS.out.mono ?_
  rintro e w3 ⟨v3, rfl, hO3, hb3⟩
  obtain ⟨a3, c3, rfl⟩ := ownsRow_shape hO3
  have U3 : Below w3.heap.size w3 (w3.alloc (.cells #[.int .i64 r, .slice a3 m.length c3] 25)) := (Below.refl _ _).alloc (Nat.le_refl _) _
  have V3 := Lib.hid ((V2.out.below hb3).below U3)
  have R3 := Lib.hid ((R2.out.below hb3).below U3)
  have S3 := Lib.hid (RV.new r hO3 25)
  clear hO3 hb3 U3 V2 R2 x0 x1 CS
  dsimp only at S3
  go_upto_region 6 with fail
  generalize w3.alloc (.cells #[.int .i64 r, .slice a3 m.length c3] 25) = W3 at V3 R3 S3 ⊢
  generalize w3.heap.size = wb at S3 ⊢
  cases q
  · obtain ⟨r0, r1⟩ := R3.out.c
    obtain ⟨s0, s1⟩ := S3.out.c
    go_wp2_with fail
    refine (samereg_any r r _ _ m m W3 R3.out.t.1 S3.out.t.1 (by omega)).mono ?_
    rw [decide_eq_true rfl]
    rintro e w4 ⟨rfl, hb4⟩
    have V4 := Lib.hid (V3.out.below hb4)
    have R4 := Lib.hid (R3.out.below hb4)
    have S4 := Lib.hid (S3.out.below hb4)
    clear hb4 r0 r1 s0 s1 V3 R3 S3
    obtain ⟨r0, r1⟩ := R4.out.c
    obtain ⟨s0, s1⟩ := S4.out.c
    go_wp2_with fail
    refine (samereg_any r r _ _ m m w4 R4.out.t.1 S4.out.t.1 (by omega)).mono ?_
    rw [decide_eq_true rfl]
    rintro e w5 ⟨rfl, hb5⟩
    have BE := Lib.hid (V4.out.bel.trans (hb5.mono V4.out.bel.size))
    clear hb5 r0 r1 s0 s1
    go_wp2_with fail
    go_ret
    exact ⟨rfl, BE.out⟩
  · obtain ⟨r0, r1⟩ := R3.out.c
    obtain ⟨s0, s1⟩ := S3.out.c
    go_wp2_with fail
    refine (samereg_any r r _ _ m m W3 R3.out.t.1 S3.out.t.1 (by omega)).mono ?_
    rw [decide_eq_true rfl]
    rintro e w4 ⟨rfl, hb4⟩
    have V4 := Lib.hid (V3.out.below hb4)
    have R4 := Lib.hid (R3.out.below hb4)
    have S4 := Lib.hid (S3.out.below hb4)
    clear hb4 r0 r1 s0 s1 V3 R3 S3
    have HA := Lib.hid (rtickv_acc HQ.out)
    have hnow2 : n ≤ now ∧ now ≤ 999 := HA.out.2.1
    have hn0 : 0 ≤ n := HA.out.1.1.1
    clear S4
    obtain ⟨later, hlat⟩ : ∃ later : Int, later = min (now + (len' : Int) % 8) 999 := ⟨_, rfl⟩
    have hl1 : now ≤ later := by omega
    have hl2 : later ≤ 999 := by omega
    have HL := Lib.hid hlat.symm
    have hw1 : IntKind.i64.wrap (now + (len' : Int) % 8) = now + (len' : Int) % 8 := IntWalk.i64_in _ (by omega)
    have HT := Lib.hid (rtickv_ticks HQ.out hl1 hl2)
    have CA := Lib.hid (itick_any r later _ m w4 R4.out.t.1 (by omega))
    rw [HT.out.1] at CA
    clear hlat
    obtain ⟨r0, r1⟩ := R4.out.c
    have hlat := HL.out
    go_wp2_with fail
    refine CA.out.mono ?_
    rintro e w5 ⟨v5, rfl, hO5, hb5⟩
    obtain ⟨a5, c5, rfl⟩ := ownsRow_shape hO5
    have HK5 : (tick later l).length ≤ 8 := rtickv_len HT.out.2
    dsimp only at hO5 ⊢
    generalize tick later l = tl at HT hO5 HK5 ⊢
    have U5 : Below w5.heap.size w5 (w5.alloc (.cells #[.int .i64 later, .slice a5 tl.length c5] 25)) := (Below.refl _ _).alloc (Nat.le_refl _) _
    have V5 := Lib.hid ((V4.out.below hb5).below U5)
    have Y5 := Lib.hid (RV.new later hO5 25)
    clear hO5 hb5 U5 V4 R4 r0 r1 CA hlat
    go_upto_region 10 with fail
    generalize w5.alloc (.cells #[.int .i64 later, .slice a5 tl.length c5] 25) = W5 at V5 Y5 ⊢
    generalize w5.heap.size = yb at Y5 ⊢
    have CB := Lib.hid (itick_any n later _ l W5 V5.out.r.t.1 (by omega))
    rw [HT.out.2] at CB
    obtain ⟨x0, x1⟩ := V5.out.r.c
    go_wp2_with fail
    refine CB.out.mono ?_
    rintro e w6 ⟨v6, rfl, hO6, hb6⟩
    obtain ⟨a6, c6, rfl⟩ := ownsRow_shape hO6
    have U6 : Below w6.heap.size w6 (w6.alloc (.cells #[.int .i64 later, .slice a6 tl.length c6] 25)) := (Below.refl _ _).alloc (Nat.le_refl _) _
    have V6 := Lib.hid ((V5.out.below hb6).below U6)
    have Y6 := Lib.hid ((Y5.out.below hb6).below U6)
    have Z6 := Lib.hid (RV.new later hO6 25)
    clear hO6 hb6 U6 V5 Y5 x0 x1 CB
    dsimp only at Z6
    go_upto_region 11 with fail
    generalize w6.alloc (.cells #[.int .i64 later, .slice a6 tl.length c6] 25) = W6 at V6 Y6 Z6 ⊢
    generalize w6.heap.size = zb at Z6 ⊢
    obtain ⟨y0, y1⟩ := Y6.out.c
    obtain ⟨z0, z1⟩ := Z6.out.c
    go_wp2_with fail
    refine (samereg_any later later _ _ tl tl W6 Y6.out.t.1 Z6.out.t.1 (by omega)).mono ?_
    rw [decide_eq_true rfl]
    rintro e w7 ⟨rfl, hb7⟩
    have BE := Lib.hid (V6.out.bel.trans (hb7.mono V6.out.bel.size))
    clear hb7 y0 y1 z0 z1
    go_wp2_with fail
    go_ret
    exact ⟨rfl, BE.out⟩

end Go.Proofs.Ytjabejljgoafiaa
