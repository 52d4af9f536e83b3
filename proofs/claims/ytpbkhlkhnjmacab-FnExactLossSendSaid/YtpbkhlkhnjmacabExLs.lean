/- The exact law of LossSend: the walk. -/
import Derived.Test.YtpbkhlkhnjmacabExLq
import Derived.Test.YtpbkhlkhnjmacabIVs
import Derived.Test.YtpbkhlkhnjmacabSLw
namespace Go.Proofs.Ytpbkhlkhnjmacab
open Go.RowKit
set_option linter.unusedVariables false
set_option linter.unusedSimpArgs false

set_option maxRecDepth 100000 in
set_option maxHeartbeats 8000000 in
theorem exls_walk (b : Ls) (ra : Option Addr) (rc : Nat) (t y : Int) (w : World) (hl : b.2.1.length ≤ 9223372036854775807) (h : Pks w (.slice ra b.2.1.length rc) b.2.1) : Calls Try.prog 5 #[.agg #[.int .i64 b.1, .slice ra b.2.1.length rc, .int .i64 b.2.2], .int .i64 t, .int .i64 y] w fun e w' => e = .returned (.bool true) ∧ Below w.heap.size w w' := by
  obtain ⟨n, l, g⟩ := b
  simp only at hl h ⊢
  have H := Lib.hid h
  clear h
  have HSZ := Lib.hid (fun W => szls_any n g ra l.length rc 1048576 W (by omega) (by omega) hl)
  have hsz := szI_cases l.length 1048576 (by omega) (by omega)
  generalize szI l.length 1048576 = z at *
  have A0 := Lib.hid (C3.new w (.int .i64 n) (.slice ra l.length rc) (.int .i64 g) 31)
  have B0 := Lib.hid ((Below.refl w.heap.size w).alloc (Nat.le_refl _) (.cells #[.int .i64 n, .slice ra l.length rc, .int .i64 g] 31))
  rcases hsz with hz | ⟨hz0, hz1, hll⟩
  · subst hz
    obtain ⟨c0, c1, c2⟩ := A0.out
    go_enter Try.func5, Try.ntmps5
    go_wp2_with fail
    refine (HSZ.out _).mono ?_
    rintro e w1 ⟨rfl, hb1⟩
    have B1 := Lib.hid (B0.out.trans (hb1.mono B0.out.size))
    clear hb1 c0 c1 c2
    go_wp2_with fail
    go_ret
    exact ⟨rfl, B1.out⟩
  have hz' : ¬ z < 0 := by omega
  obtain ⟨r, hr⟩ : ∃ r, lsendv (n, l, g) t y = r := ⟨_, rfl⟩
  obtain ⟨⟨n', m, g'⟩, j, q⟩ := r
  have hm8 := lsendv_len hr hll
  simp only at hm8
  have HR := Lib.hid hr
  clear hr
  have TOR := Lib.hid (fun (W : World) (hb : Below w.heap.size w W) => tols_any n g l ra rc W (H.out.below hb) hll)
  obtain ⟨c0, c1, c2⟩ := A0.out
  go_enter Try.func5, Try.ntmps5
  go_wp2_with fail
  refine (HSZ.out _).mono ?_
  rintro e w1 ⟨rfl, hb1⟩
  have B1 := Lib.hid (B0.out.trans (hb1.mono B0.out.size))
  have A1 := Lib.hid (A0.out.below hb1)
  clear hb1 c0 c1 c2 A0 B0
  obtain ⟨c0, c1, c2⟩ := A1.out
  go_wp2_with fail
  refine (TOR.out _ B1.out).mono ?_
  rintro e w2 ⟨b1, k1, rfl, hb2, ho1⟩
  have B2 := Lib.hid (B1.out.trans (hb2.mono B1.out.size))
  have A2 := Lib.hid (A1.out.below hb2)
  have O1 := Lib.hid ho1
  clear hb2 c0 c1 c2 A1 B1 ho1
  have S2 := Lib.hid (slosssend_any n g t y _ l _ O1.out.pks O1.out.nilok hll)
  rw [HR.out] at S2
  clear O1
  obtain ⟨c0, c1, c2⟩ := A2.out
  go_wp2_with fail
  refine S2.out.mono ?_
  rintro e w3 ⟨v2, rfl, ho2, hb3⟩
  have B3 := Lib.hid ((B2.out.trans (hb3.mono B2.out.size)).alloc (B2.out.trans (hb3.mono B2.out.size)).size (.cells #[.int .i64 n', v2, .int .i64 g'] 24))
  have A3 := Lib.hid ((A2.out.below hb3).below ((Below.refl _ _).alloc (Nat.le_refl _) (.cells #[.int .i64 n', v2, .int .i64 g'] 24)))
  have X3 := Lib.hid (C3.new w3 (.int .i64 n') v2 (.int .i64 g') 24)
  have O3 := Lib.hid ((OwnPk.zero ho2).below ((Below.refl _ _).alloc (Nat.le_refl _) (.cells #[.int .i64 n', v2, .int .i64 g'] 24)))
  have Q2 : Hid (∀ b, v2.ownBlock = some b → w.heap.size < b ∧ b < w3.heap.size) := Lib.hid (fun b hg => by have := World.ownsRow.lt ho2 b hg; have := A2.out.lt; omega)
  have hs3 : Hid (w.heap.size < w3.heap.size ∧ (w3.alloc (.cells #[.int .i64 n', v2, .int .i64 g'] 24)).heap.size = w3.heap.size + 1) := Lib.hid ⟨Nat.lt_of_lt_of_le A2.out.lt hb3.size, by simp⟩
  have HS2 := Lib.hid (OwnPk.shape ho2)
  clear hb3 c0 c1 c2 A2 B2 ho2 S2
  obtain ⟨a2, k2, rfl⟩ := HS2.out
  obtain ⟨c0, c1, c2⟩ := A3.out
  go_wp2_with fail
  refine (TOR.out _ B3.out).mono ?_
  rintro e w4 ⟨b3, k3, rfl, hb4, ho3⟩
  have HN3 : Hid ((Value.slice (some ⟨b3, 0, none⟩) l.length k3).ownBlock = some b3) := Lib.hid rfl
  have B4 := Lib.hid ((B3.out.trans (hb4.mono B3.out.size)).alloc (B3.out.trans (hb4.mono B3.out.size)).size (.cells #[.int .i64 n, .slice (some ⟨b3, 0, none⟩) l.length k3, .int .i64 g] 24))
  have U4 : Hid (Below w4.heap.size w4 (w4.alloc (.cells #[.int .i64 n, .slice (some ⟨b3, 0, none⟩) l.length k3, .int .i64 g] 24))) := Lib.hid ((Below.refl _ _).alloc (Nat.le_refl _) _)
  have A4 := Lib.hid ((A3.out.below hb4).below U4.out)
  have X4 := Lib.hid ((X3.out.below hb4).below U4.out)
  have O4 := Lib.hid ((O3.out.below hb4).below U4.out)
  have Y4 := Lib.hid (C3.new w4 (.int .i64 n) (.slice (some ⟨b3, 0, none⟩) l.length k3) (.int .i64 g) 24)
  have O4' := Lib.hid (OwnPk.below ho3 U4.out)
  have Q3 : Hid (∀ b, (Value.slice (some ⟨b3, 0, none⟩) l.length k3).ownBlock = some b → w3.heap.size < b ∧ b < w4.heap.size) := Lib.hid (fun b hg => by have := World.ownsRow.lt ho3 b hg; have := hs3.out; omega)
  have hs4 : Hid (w3.heap.size < w4.heap.size ∧ (w4.alloc (.cells #[.int .i64 n, .slice (some ⟨b3, 0, none⟩) l.length k3, .int .i64 g] 24)).heap.size = w4.heap.size + 1) := Lib.hid ⟨by have := hs3.out; have := hb4.size; omega, by simp⟩
  clear hb4 c0 c1 c2 A3 B3 ho3 X3 O3 U4
  have I4 := Lib.hid (ilsend_any n g t y _ l _ O4'.out.pks hll)
  rw [HR.out] at I4
  obtain ⟨c0, c1, c2⟩ := Y4.out
  go_wp2_with fail
  refine I4.out.mono ?_
  rintro e w5 ⟨v4, rfl, ho4, hb5⟩
  have HS4 := Lib.hid (OwnPk.shape ho4)
  have U5 : Hid (Below w5.heap.size w5 (w5.alloc (.cells #[.int .i64 n', v4, .int .i64 g'] 24))) := Lib.hid ((Below.refl _ _).alloc (Nat.le_refl _) _)
  have hb6 := hb5.trans (U5.out.mono hb5.size)
  have Q4 : Hid (∀ b, v4.ownBlock = some b → w4.heap.size < b ∧ b < w5.heap.size) := Lib.hid (fun b hg => by have := World.ownsRow.lt ho4 b hg; have := hs4.out; omega)
  have X : Hid (XS w (w5.alloc (.cells #[.int .i64 n', v4, .int .i64 g'] 24)) n g n' g' (.slice ra l.length rc) (.slice a2 m.length k2) (.slice (some ⟨b3, 0, none⟩) l.length k3) v4 w3.heap.size w4.heap.size w5.heap.size m l m) := Lib.hid
    ⟨B4.out.trans (hb6.mono B4.out.size), A4.out.below hb6, X4.out.below hb6, Y4.out.below hb6, C3.new w5 (.int .i64 n') v4 (.int .i64 g') 24, O4.out.below hb6, (OwnPk.zero O4'.out).below hb6, (OwnPk.zero ho4).below U5.out, Q2.out, Q3.out, Q4.out, ⟨hs3.out.1, hs4.out.1, by have := hs4.out; have := hb5.size; omega⟩⟩
  clear hb5 hb6 c0 c1 c2 A4 B4 O4 O4' X4 Y4 Q2 Q3 Q4 ho4 I4 U5 hs3 hs4
  obtain ⟨a4, k4, rfl⟩ := HS4.out
  generalize w3.heap.size = p2 at *
  generalize w4.heap.size = p3 at *
  have EQ := Lib.hid (fun (W : World) (x : XS w W n g n' g' (.slice ra l.length rc) (.slice a2 m.length k2) (.slice (some ⟨b3, 0, none⟩) l.length k3) (.slice a4 m.length k4) p2 p3 w5.heap.size m l m) => eqls_any n' g' m a4 a2 k4 k2 W x.o4.pks x.o2.pks (by omega))
  have EQ' := Lib.hid (fun (W : World) (x : XS w W n g n' g' (.slice ra l.length rc) (.slice a2 m.length k2) (.slice (some ⟨b3, 0, none⟩) l.length k3) (.slice a4 m.length k4) p2 p3 w5.heap.size m (pmarks l.length) m) => eqls_any n' g' m a4 a2 k4 k2 W x.o4.pks x.o2.pks (by omega))
  have hqq : (q != q) = false := by cases q <;> rfl
  have hjj : (j != j) = false := by simp
  obtain ⟨c0, c1, c2, c3, c4, c5, c6, c7, c8, c9, ca, cb⟩ := X.out.cells
  go_wp2_with fail
  refine (EQ.out _ X.out).mono ?_
  rintro e w6 ⟨rfl, hb6⟩
  have X6 := Lib.hid (X.out.below hb6)
  clear hb6 c0 c1 c2 c3 c4 c5 c6 c7 c8 c9 ca cb X
  obtain ⟨c0, c1, c2, c3, c4, c5, c6, c7, c8, c9, ca, cb⟩ := X6.out.cells
  have XD := Lib.hid X6.out.drew
  have kS := And.intro XD.out.ar.c0 (And.intro XD.out.ar.c1 (And.intro XD.out.ar.c2 (And.intro XD.out.x3.c0 (And.intro XD.out.x3.c1 XD.out.x3.c2))))
  go_wp2_with fail
  go_region_held3 (fun W => W.cell? ⟨w.heap.size, 0, none⟩ = some (.int .i64 n) ∧ W.cell? ⟨w.heap.size, 1, none⟩ = some (.slice ra l.length rc) ∧ W.cell? ⟨w.heap.size, 2, none⟩ = some (.int .i64 g) ∧ W.cell? ⟨p3, 0, none⟩ = some (.int .i64 n) ∧ W.cell? ⟨p3, 1, none⟩ = some (.slice (some ⟨b3, 0, none⟩) l.length k3) ∧ W.cell? ⟨p3, 2, none⟩ = some (.int .i64 g)) (with_reducible first | assumption | exact kS | exact kT | exact kU)
    ((first
      | (go_at_call 11; (with_reducible refine (eqls_any n g l (some ⟨b3, 0, none⟩) (some ⟨b7, 0, none⟩) k3 k7 _ X7.out.o3.pks O7.out.pks hll).mono ?_); rintro e w8 ⟨rfl, hb8⟩; have X8 := Lib.hid (X7.out.below hb8); have kU := And.intro X8.out.ar.c0 (And.intro X8.out.ar.c1 (And.intro X8.out.ar.c2 (And.intro X8.out.x3.c0 (And.intro X8.out.x3.c1 X8.out.x3.c2)))))
      | (go_at_call 16; (with_reducible refine (TOR.out _ XD.out.bel).mono ?_); rintro e w7 ⟨b7, k7, rfl, hb7, ho7⟩; have X7 := Lib.hid (XD.out.below hb7); have O7 := Lib.hid ho7; have kT := And.intro X7.out.ar.c0 (And.intro X7.out.ar.c1 (And.intro X7.out.ar.c2 (And.intro X7.out.x3.c0 (And.intro X7.out.x3.c1 X7.out.x3.c2)))))))
  clear kS kT kU c0 c1 c2 c3 c4 c5 c6 c7 c8 c9 ca cb X6 XD X7 O7 hb7 hb8 ho7
  have MK := Lib.hid (mkls_any n g _ l 0 w8 X8.out.o3 hll)
  obtain ⟨c0, c1, c2, c3, c4, c5, c6, c7, c8, c9, ca, cb⟩ := X8.out.cells
  go_wp2_with fail
  refine MK.out.mono ?_
  rintro e w9 ⟨rfl, hg9, ho9⟩
  have X9 := Lib.hid (X8.out.mark3 hg9 ho9)
  have hk9 : ¬ (1 + 3 * (l.length : Int)) < 0 := by omega
  clear hg9 ho9 MK X8 c0 c1 c2 c3 c4 c5 c6 c7 c8 c9 ca cb
  obtain ⟨c0, c1, c2, c3, c4, c5, c6, c7, c8, c9, ca, cb⟩ := X9.out.cells
  go_wp2_with fail
  refine (EQ'.out _ X9.out).mono ?_
  rintro e w10 ⟨rfl, hb10⟩
  have X10 := Lib.hid (X9.out.below hb10)
  clear hb10 c0 c1 c2 c3 c4 c5 c6 c7 c8 c9 ca cb X9 hk9
  have MK := Lib.hid (mkls_any n' g' _ m 0 w10 X10.out.o4 (by omega))
  obtain ⟨c0, c1, c2, c3, c4, c5, c6, c7, c8, c9, ca, cb⟩ := X10.out.cells
  go_wp2_with fail
  refine MK.out.mono ?_
  rintro e w11 ⟨rfl, hg11, ho11⟩
  have X11 := Lib.hid (X10.out.mark4 hg11 ho11)
  have hk9 : ¬ (1 + 3 * (m.length : Int)) < 0 := by omega
  have hk8 : ((1 + 3 * (m.length : Int)) != (1 + 3 * (m.length : Int))) = false := by simp
  clear hg11 ho11 MK X10 c0 c1 c2 c3 c4 c5 c6 c7 c8 c9 ca cb
  have HD := Lib.hid (fun (W : World) (x : XS w W n g n' g' (.slice ra l.length rc) (.slice a2 m.length k2) (.slice (some ⟨b3, 0, none⟩) l.length k3) (.slice a4 m.length k4) p2 p3 w5.heap.size m (pmarks l.length) (pmarks m.length)) => hdls_any n' g' a4 m.length k4 W x.o4.pks (by omega))
  obtain ⟨c0, c1, c2, c3, c4, c5, c6, c7, c8, c9, ca, cb⟩ := X11.out.cells
  go_wp2_with fail
  refine (HD.out _ X11.out).mono ?_
  rintro e w12 ⟨rfl, hb12⟩
  have X12 := Lib.hid (X11.out.below hb12)
  clear hb12 c0 c1 c2 c3 c4 c5 c6 c7 c8 c9 ca cb X11
  obtain ⟨c0, c1, c2, c3, c4, c5, c6, c7, c8, c9, ca, cb⟩ := X12.out.cells
  go_wp2_with fail
  refine (TOR.out _ X12.out.bel).mono ?_
  rintro e w13 ⟨b13, k13, rfl, hb13, ho13⟩
  have X13 := Lib.hid (X12.out.below hb13)
  have O13 := Lib.hid ho13
  clear hb13 ho13 c0 c1 c2 c3 c4 c5 c6 c7 c8 c9 ca cb X12
  have I13 := Lib.hid (ilsend_any n g t y _ l _ O13.out.pks hll)
  rw [HR.out] at I13
  obtain ⟨c0, c1, c2, c3, c4, c5, c6, c7, c8, c9, ca, cb⟩ := X13.out.cells
  go_wp2_with fail
  refine I13.out.mono ?_
  rintro e w14 ⟨v14, rfl, ho14, hb14⟩
  obtain ⟨a14, k14, rfl⟩ := OwnPk.shape ho14
  have U14 : Hid (Below w14.heap.size w14 (w14.alloc (.cells #[.int .i64 n', .slice a14 m.length k14, .int .i64 g'] 24))) := Lib.hid ((Below.refl _ _).alloc (Nat.le_refl _) _)
  have X14 := Lib.hid ((X13.out.below hb14).below U14.out)
  have Z14 := Lib.hid (C3.new w14 (.int .i64 n') (.slice a14 m.length k14) (.int .i64 g') 24)
  have O14 := Lib.hid ((OwnPk.zero ho14).below U14.out)
  have EQ14 := Lib.hid (eqls_any n' g' m a14 a2 k14 k2 _ O14.out.pks X14.out.o2.pks (by omega))
  clear hb14 ho14 c0 c1 c2 c3 c4 c5 c6 c7 c8 c9 ca cb X13 I13 O13 U14
  obtain ⟨c0, c1, c2, c3, c4, c5, c6, c7, c8, c9, ca, cb⟩ := X14.out.cells
  obtain ⟨d0, d1, d2⟩ := Z14.out
  go_wp2_with fail
  refine EQ14.out.mono ?_
  rintro e w15 ⟨rfl, hb15⟩
  have X15 := Lib.hid (X14.out.below hb15)
  clear hb15 c0 c1 c2 c3 c4 c5 c6 c7 c8 c9 ca cb d0 d1 d2 X14 Z14 O14 EQ14
  obtain ⟨c0, c1, c2, c3, c4, c5, c6, c7, c8, c9, ca, cb⟩ := X15.out.cells
  go_wp2_with fail
  refine (HD.out _ X15.out).mono ?_
  rintro e w16 ⟨rfl, hb16⟩
  have X16 := Lib.hid (X15.out.below hb16)
  clear hb16 c0 c1 c2 c3 c4 c5 c6 c7 c8 c9 ca cb X15
  go_wp2_with fail
  go_ret
  exact ⟨rfl, X16.out.bel⟩

end Go.Proofs.Ytpbkhlkhnjmacab
