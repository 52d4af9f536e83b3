/- The exact law of RecvRead: the walk. -/
import Derived.Test.YthdhjjbgegcncaaExRcq
namespace Go.Proofs.Ythdhjjbgegcncaa
open Go.RowKit
set_option linter.unusedVariables false
set_option linter.unusedSimpArgs false

set_option maxRecDepth 100000 in
set_option maxHeartbeats 8000000 in
theorem exrcrr_walk (rd fi li : Int) (ra : Option Addr) (rc : Nat) (l : List Pc) (n : Int) (w : World) (hl : l.length ≤ 9223372036854775807) (h : Pcn w (.slice ra l.length rc) l) (hp : ∀ p ∈ l, PIn p) : Calls Try.prog 7 #[.agg #[.int .i64 rd, .slice ra l.length rc, .int .i64 fi, .int .i64 li], .int .i64 n] w fun e w' => e = .returned (.bool true) ∧ Below w.heap.size w w' := by
  obtain ⟨rd', m, fi', li', s, hv⟩ := ReadV.ex rd l fi li n
  have HV := Lib.hid hv
  clear hv
  
  have H := Lib.hid h
  have HPI := Lib.hid hp
  have HSZ := Lib.hid (fun W (hb : Below w.heap.size w W) => szrc_any (.slice ra l.length rc) l rd fi li 1048576 W (h.below hb) (by omega) (by omega) hl (pin_sz hp))
  clear h hp
  have A0 := Lib.hid (C4.new w (.int .i64 rd) (.slice ra l.length rc) (.int .i64 fi) (.int .i64 li) 32)
  have B0 := Lib.hid ((Below.refl w.heap.size w).alloc (Nat.le_refl _) (.cells #[.int .i64 rd, .slice ra l.length rc, .int .i64 fi, .int .i64 li] 32))
  obtain ⟨c0, c1, c2, c3⟩ := A0.out
  go_enter Try.func7, Try.ntmps7
  go_wp2_with fail
  refine (HSZ.out _ B0.out).mono ?_
  rintro e w1 ⟨z, rfl, hb1, hz⟩
  have B1 := Lib.hid (B0.out.trans (hb1.mono B0.out.size))
  have A1 := Lib.hid (A0.out.below hb1)
  clear hb1 c0 c1 c2 c3 A0 B0
  rcases hz with rfl | ⟨hz0, hll, hss⟩
  · go_wp2_with fail
    go_ret
    exact ⟨rfl, B1.out⟩
  have hz' : ¬ z < 0 := by omega
  have HS := Lib.hid (szd_of HPI.out hll hss)
  clear hss hz0
  have TOR := Lib.hid (fun (W : World) (hb : Below w.heap.size w W) => torc_any (.slice ra l.length rc) l rd fi li W (H.out.below hb) hll)
  have hm8 : m.length ≤ 1048576 := HV.out.len2
  obtain ⟨c0, c1, c2, c3⟩ := A1.out
  go_wp2_with fail
  refine (TOR.out _ B1.out).mono ?_
  rintro e w2 ⟨b1, k1, rfl, hb2, ho1⟩
  have B2 := Lib.hid (B1.out.trans (hb2.mono B1.out.size))
  have A2 := Lib.hid (A1.out.below hb2)
  have S2 := Lib.hid (sread_got HV.out ho1 (by intro e; cases e) HS.out)
  clear hb2 c0 c1 c2 c3 A1 B1 ho1
  obtain ⟨c0, c1, c2, c3⟩ := A2.out
  go_wp2_with fail
  refine S2.out.mono ?_
  rintro e w3 ⟨v2, rfl, hb3, ho2⟩
  have B3 := Lib.hid ((B2.out.trans (hb3.mono B2.out.size)).alloc (B2.out.trans (hb3.mono B2.out.size)).size (.cells #[.int .i64 rd', v2, .int .i64 fi', .int .i64 li'] 24))
  have U3 : Hid (Below w3.heap.size w3 (w3.alloc (.cells #[.int .i64 rd', v2, .int .i64 fi', .int .i64 li'] 24))) := Lib.hid ((Below.refl _ _).alloc (Nat.le_refl _) _)
  have A3 := Lib.hid ((A2.out.below hb3).below U3.out)
  have X3 := Lib.hid (C4.new w3 (.int .i64 rd') v2 (.int .i64 fi') (.int .i64 li') 24)
  have O3 := Lib.hid ((OwnPc.zero ho2).below U3.out)
  have Q2 : Hid (∀ b, v2.ownBlock = some b → w.heap.size < b ∧ b < w3.heap.size) := Lib.hid (fun b hg => by have := World.ownsRow.lt ho2 b hg; have := A2.out.lt; omega)
  have hs3 : Hid (w.heap.size < w3.heap.size ∧ (w3.alloc (.cells #[.int .i64 rd', v2, .int .i64 fi', .int .i64 li'] 24)).heap.size = w3.heap.size + 1) := Lib.hid ⟨Nat.lt_of_lt_of_le A2.out.lt hb3.size, by simp⟩
  have HS2 := Lib.hid (OwnPc.shape ho2)
  clear hb3 c0 c1 c2 c3 A2 B2 ho2 S2 U3
  obtain ⟨a2, k2, rfl⟩ := HS2.out
  obtain ⟨c0, c1, c2, c3⟩ := A3.out
  go_wp2_with fail
  refine (TOR.out _ B3.out).mono ?_
  rintro e w4 ⟨b3, k3, rfl, hb4, ho3⟩
  have B4 := Lib.hid ((B3.out.trans (hb4.mono B3.out.size)).alloc (B3.out.trans (hb4.mono B3.out.size)).size (.cells #[.int .i64 rd, .slice (some ⟨b3, 0, none⟩) l.length k3, .int .i64 fi, .int .i64 li] 24))
  have U4 : Hid (Below w4.heap.size w4 (w4.alloc (.cells #[.int .i64 rd, .slice (some ⟨b3, 0, none⟩) l.length k3, .int .i64 fi, .int .i64 li] 24))) := Lib.hid ((Below.refl _ _).alloc (Nat.le_refl _) _)
  have A4 := Lib.hid ((A3.out.below hb4).below U4.out)
  have X4 := Lib.hid ((X3.out.below hb4).below U4.out)
  have O4 := Lib.hid ((O3.out.below hb4).below U4.out)
  have Y4 := Lib.hid (C4.new w4 (.int .i64 rd) (.slice (some ⟨b3, 0, none⟩) l.length k3) (.int .i64 fi) (.int .i64 li) 24)
  have O4' := Lib.hid (OwnPc.below ho3 U4.out)
  have Q3 : Hid (∀ b, (Value.slice (some ⟨b3, 0, none⟩) l.length k3).ownBlock = some b → w3.heap.size < b ∧ b < w4.heap.size) := Lib.hid (fun b hg => by have := World.ownsRow.lt ho3 b hg; have := hs3.out; omega)
  have hs4 : Hid (w3.heap.size < w4.heap.size ∧ (w4.alloc (.cells #[.int .i64 rd, .slice (some ⟨b3, 0, none⟩) l.length k3, .int .i64 fi, .int .i64 li] 24)).heap.size = w4.heap.size + 1) := Lib.hid ⟨by have := hs3.out; have := hb4.size; omega, by simp⟩
  clear hb4 c0 c1 c2 c3 A3 B3 ho3 X3 O3 U4
  have I4 := Lib.hid (iread_got HV.out O4'.out.n HS.out)
  obtain ⟨c0, c1, c2, c3⟩ := Y4.out
  go_wp2_with fail
  refine I4.out.mono ?_
  rintro e w5 ⟨v4, rfl, hb5, ho4⟩
  have HS4 := Lib.hid (OwnPc.shape ho4)
  have U5 : Hid (Below w5.heap.size w5 (w5.alloc (.cells #[.int .i64 rd', v4, .int .i64 fi', .int .i64 li'] 24))) := Lib.hid ((Below.refl _ _).alloc (Nat.le_refl _) _)
  have hb6 := hb5.trans (U5.out.mono hb5.size)
  have Q4 : Hid (∀ b, v4.ownBlock = some b → w4.heap.size < b ∧ b < w5.heap.size) := Lib.hid (fun b hg => by have := World.ownsRow.lt ho4 b hg; have := hs4.out; omega)
  have X : Hid (XS w (w5.alloc (.cells #[.int .i64 rd', v4, .int .i64 fi', .int .i64 li'] 24)) rd fi li rd' fi' li' (.slice ra l.length rc) (.slice a2 m.length k2) (.slice (some ⟨b3, 0, none⟩) l.length k3) v4 w3.heap.size w4.heap.size w5.heap.size m l m) := Lib.hid
    ⟨B4.out.trans (hb6.mono B4.out.size), A4.out.below hb6, X4.out.below hb6, Y4.out.below hb6, C4.new w5 (.int .i64 rd') v4 (.int .i64 fi') (.int .i64 li') 24, O4.out.below hb6, (OwnPc.zero O4'.out).below hb6, (OwnPc.zero ho4).below U5.out, Q2.out, Q3.out, Q4.out, ⟨hs3.out.1, hs4.out.1, by have := hs4.out; have := hb5.size; omega⟩⟩
  clear hb5 hb6 c0 c1 c2 c3 A4 B4 O4 O4' X4 Y4 Q2 Q3 Q4 ho4 I4 U5 hs3 hs4
  obtain ⟨a4, k4, rfl⟩ := HS4.out
  generalize w3.heap.size = p2 at *
  generalize w4.heap.size = p3 at *
  have EQ := Lib.hid (fun (W : World) (x : XS w W rd fi li rd' fi' li' (.slice ra l.length rc) (.slice a2 m.length k2) (.slice (some ⟨b3, 0, none⟩) l.length k3) (.slice a4 m.length k4) p2 p3 w5.heap.size m l m) => eqrc_any rd' fi' li' _ _ m W x.o4.n x.o2.n hm8)
  have EQ' := Lib.hid (fun (W : World) (x : XS w W rd fi li rd' fi' li' (.slice ra l.length rc) (.slice a2 m.length k2) (.slice (some ⟨b3, 0, none⟩) l.length k3) (.slice a4 m.length k4) p2 p3 w5.heap.size m (qmarks l.length) m) => eqrc_any rd' fi' li' _ _ m W x.o4.n x.o2.n hm8)
  obtain ⟨⟨c0, c1, c2, c3⟩, ⟨e0, e1, e2, e3⟩, ⟨f0, f1, f2, f3⟩, ⟨g0, g1, g2, g3⟩⟩ := And.intro X.out.ar (And.intro X.out.x2 (And.intro X.out.x3 X.out.x4))
  go_wp2_with fail
  refine (EQ.out _ X.out).mono ?_
  rintro e w6 ⟨rfl, hb6⟩
  have X6 := Lib.hid (X.out.below hb6)
  clear hb6 c0 c1 c2 c3 e0 e1 e2 e3 f0 f1 f2 f3 g0 g1 g2 g3 X
  obtain ⟨⟨c0, c1, c2, c3⟩, ⟨e0, e1, e2, e3⟩, ⟨f0, f1, f2, f3⟩, ⟨g0, g1, g2, g3⟩⟩ := And.intro X6.out.ar (And.intro X6.out.x2 (And.intro X6.out.x3 X6.out.x4))
  have XD := Lib.hid X6.out.drew
  have kS := And.intro XD.out.ar.c0 (And.intro XD.out.ar.c1 (And.intro XD.out.ar.c2 (And.intro XD.out.ar.c3 (And.intro XD.out.x3.c0 (And.intro XD.out.x3.c1 (And.intro XD.out.x3.c2 XD.out.x3.c3))))))
  go_wp2_with fail
  go_region_held3 (fun W => W.cell? ⟨w.heap.size, 0, none⟩ = some (.int .i64 rd) ∧ W.cell? ⟨w.heap.size, 1, none⟩ = some (.slice ra l.length rc) ∧ W.cell? ⟨w.heap.size, 2, none⟩ = some (.int .i64 fi) ∧ W.cell? ⟨w.heap.size, 3, none⟩ = some (.int .i64 li) ∧ W.cell? ⟨p3, 0, none⟩ = some (.int .i64 rd) ∧ W.cell? ⟨p3, 1, none⟩ = some (.slice (some ⟨b3, 0, none⟩) l.length k3) ∧ W.cell? ⟨p3, 2, none⟩ = some (.int .i64 fi) ∧ W.cell? ⟨p3, 3, none⟩ = some (.int .i64 li)) (with_reducible first | assumption | exact kS | exact kT | exact kU)
    ((first
      | (go_at_call 12; (with_reducible refine (eqrc_any rd fi li (.slice (some ⟨b3, 0, none⟩) l.length k3) (.slice (some ⟨b7, 0, none⟩) l.length k7) l _ X7.out.o3.n O7.out.n hll).mono ?_); rintro e w8 ⟨rfl, hb8⟩; have X8 := Lib.hid (X7.out.below hb8); have kU := And.intro X8.out.ar.c0 (And.intro X8.out.ar.c1 (And.intro X8.out.ar.c2 (And.intro X8.out.ar.c3 (And.intro X8.out.x3.c0 (And.intro X8.out.x3.c1 (And.intro X8.out.x3.c2 X8.out.x3.c3)))))))
      | (go_at_call 17; (with_reducible refine (TOR.out _ XD.out.bel).mono ?_); rintro e w7 ⟨b7, k7, rfl, hb7, ho7⟩; have X7 := Lib.hid (XD.out.below hb7); have O7 := Lib.hid ho7; have kT := And.intro X7.out.ar.c0 (And.intro X7.out.ar.c1 (And.intro X7.out.ar.c2 (And.intro X7.out.ar.c3 (And.intro X7.out.x3.c0 (And.intro X7.out.x3.c1 (And.intro X7.out.x3.c2 X7.out.x3.c3)))))))))
  clear kS kT kU c0 c1 c2 c3 e0 e1 e2 e3 f0 f1 f2 f3 g0 g1 g2 g3 X6 XD X7 O7 hb7 hb8 ho7
  have MK := Lib.hid (mkrc_any rd fi li _ l 0 w8 X8.out.o3 hll)
  obtain ⟨⟨c0, c1, c2, c3⟩, ⟨e0, e1, e2, e3⟩, ⟨f0, f1, f2, f3⟩, ⟨g0, g1, g2, g3⟩⟩ := And.intro X8.out.ar (And.intro X8.out.x2 (And.intro X8.out.x3 X8.out.x4))
  go_wp2_with fail
  refine MK.out.mono ?_
  rintro e w9 ⟨rfl, hg9, ho9⟩
  have X9 := Lib.hid (X8.out.mark3 hg9 ho9)
  have hk9 : ¬ (1 + 2 * (l.length : Int)) < 0 := by omega
  clear hg9 ho9 MK X8 c0 c1 c2 c3 e0 e1 e2 e3 f0 f1 f2 f3 g0 g1 g2 g3
  obtain ⟨⟨c0, c1, c2, c3⟩, ⟨e0, e1, e2, e3⟩, ⟨f0, f1, f2, f3⟩, ⟨g0, g1, g2, g3⟩⟩ := And.intro X9.out.ar (And.intro X9.out.x2 (And.intro X9.out.x3 X9.out.x4))
  go_wp2_with fail
  refine (EQ'.out _ X9.out).mono ?_
  rintro e w10 ⟨rfl, hb10⟩
  have X10 := Lib.hid (X9.out.below hb10)
  clear hb10 c0 c1 c2 c3 e0 e1 e2 e3 f0 f1 f2 f3 g0 g1 g2 g3 X9 hk9
  have MK := Lib.hid (mkrc_any rd' fi' li' _ m 0 w10 X10.out.o4 hm8)
  obtain ⟨⟨c0, c1, c2, c3⟩, ⟨e0, e1, e2, e3⟩, ⟨f0, f1, f2, f3⟩, ⟨g0, g1, g2, g3⟩⟩ := And.intro X10.out.ar (And.intro X10.out.x2 (And.intro X10.out.x3 X10.out.x4))
  go_wp2_with fail
  refine MK.out.mono ?_
  rintro e w11 ⟨rfl, hg11, ho11⟩
  have X11 := Lib.hid (X10.out.mark4 hg11 ho11)
  have hk9 : ¬ (1 + 2 * (m.length : Int)) < 0 := by omega
  have hk8 : ((1 + 2 * (m.length : Int)) != (1 + 2 * (m.length : Int))) = false := by simp
  clear hg11 ho11 MK X10 c0 c1 c2 c3 e0 e1 e2 e3 f0 f1 f2 f3 g0 g1 g2 g3
  have HD := Lib.hid (fun (W : World) (x : XS w W rd fi li rd' fi' li' (.slice ra l.length rc) (.slice a2 m.length k2) (.slice (some ⟨b3, 0, none⟩) l.length k3) (.slice a4 m.length k4) p2 p3 w5.heap.size m (qmarks l.length) (qmarks m.length)) => hdrc_any rd' fi' li' a4 m.length k4 W x.o4.n hm8)
  obtain ⟨⟨c0, c1, c2, c3⟩, ⟨e0, e1, e2, e3⟩, ⟨f0, f1, f2, f3⟩, ⟨g0, g1, g2, g3⟩⟩ := And.intro X11.out.ar (And.intro X11.out.x2 (And.intro X11.out.x3 X11.out.x4))
  go_wp2_with fail
  refine (HD.out _ X11.out).mono ?_
  rintro e w12 ⟨rfl, hb12⟩
  have X12 := Lib.hid (X11.out.below hb12)
  clear hb12 c0 c1 c2 c3 e0 e1 e2 e3 f0 f1 f2 f3 g0 g1 g2 g3 X11
  obtain ⟨⟨c0, c1, c2, c3⟩, ⟨e0, e1, e2, e3⟩, ⟨f0, f1, f2, f3⟩, ⟨g0, g1, g2, g3⟩⟩ := And.intro X12.out.ar (And.intro X12.out.x2 (And.intro X12.out.x3 X12.out.x4))
  go_wp2_with fail
  refine (TOR.out _ X12.out.bel).mono ?_
  rintro e w13 ⟨b13, k13, rfl, hb13, ho13⟩
  have X13 := Lib.hid (X12.out.below hb13)
  have O13 := Lib.hid ho13
  clear hb13 ho13 c0 c1 c2 c3 e0 e1 e2 e3 f0 f1 f2 f3 g0 g1 g2 g3 X12
  have I13 := Lib.hid (iread_got HV.out O13.out.n HS.out)
  obtain ⟨⟨c0, c1, c2, c3⟩, ⟨e0, e1, e2, e3⟩, ⟨f0, f1, f2, f3⟩, ⟨g0, g1, g2, g3⟩⟩ := And.intro X13.out.ar (And.intro X13.out.x2 (And.intro X13.out.x3 X13.out.x4))
  go_wp2_with fail
  refine I13.out.mono ?_
  rintro e w14 ⟨v14, rfl, hb14, ho14⟩
  obtain ⟨a14, k14, rfl⟩ := OwnPc.shape ho14
  have U14 : Hid (Below w14.heap.size w14 (w14.alloc (.cells #[.int .i64 rd', .slice a14 m.length k14, .int .i64 fi', .int .i64 li'] 24))) := Lib.hid ((Below.refl _ _).alloc (Nat.le_refl _) _)
  have X14 := Lib.hid ((X13.out.below hb14).below U14.out)
  have Z14 := Lib.hid (C4.new w14 (.int .i64 rd') (.slice a14 m.length k14) (.int .i64 fi') (.int .i64 li') 24)
  have O14 := Lib.hid ((OwnPc.zero ho14).below U14.out)
  have EQ14 := Lib.hid (eqrc_any rd' fi' li' _ _ m _ O14.out.n X14.out.o2.n hm8)
  clear hb14 ho14 c0 c1 c2 c3 e0 e1 e2 e3 f0 f1 f2 f3 g0 g1 g2 g3 X13 I13 O13 U14
  obtain ⟨⟨c0, c1, c2, c3⟩, ⟨e0, e1, e2, e3⟩, ⟨f0, f1, f2, f3⟩, ⟨g0, g1, g2, g3⟩⟩ := And.intro X14.out.ar (And.intro X14.out.x2 (And.intro X14.out.x3 X14.out.x4))
  obtain ⟨d0, d1, d2, d3⟩ := Z14.out
  go_wp2_with fail
  refine EQ14.out.mono ?_
  rintro e w15 ⟨rfl, hb15⟩
  have X15 := Lib.hid (X14.out.below hb15)
  clear hb15 c0 c1 c2 c3 e0 e1 e2 e3 f0 f1 f2 f3 g0 g1 g2 g3 d0 d1 d2 d3 X14 Z14 O14 EQ14
  obtain ⟨⟨c0, c1, c2, c3⟩, ⟨e0, e1, e2, e3⟩, ⟨f0, f1, f2, f3⟩, ⟨g0, g1, g2, g3⟩⟩ := And.intro X15.out.ar (And.intro X15.out.x2 (And.intro X15.out.x3 X15.out.x4))
  go_wp2_with fail
  refine (HD.out _ X15.out).mono ?_
  rintro e w16 ⟨rfl, hb16⟩
  have X16 := Lib.hid (X15.out.below hb16)
  clear hb16 c0 c1 c2 c3 e0 e1 e2 e3 f0 f1 f2 f3 g0 g1 g2 g3 X15
  go_wp2_with fail
  go_ret
  exact ⟨rfl, X16.out.bel⟩

end Go.Proofs.Ythdhjjbgegcncaa
