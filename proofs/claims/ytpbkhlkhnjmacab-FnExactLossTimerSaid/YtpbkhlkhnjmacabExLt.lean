/- The exact law of LossTimer: the walk. -/
import Derived.Test.YtpbkhlkhnjmacabEqLs
import Derived.Test.YtpbkhlkhnjmacabRowLs
import Derived.Test.YtpbkhlkhnjmacabSLw
import Derived.Test.YtpbkhlkhnjmacabIVt
import Derived.Deep.RegionHeld3
namespace Go.Proofs.Ytpbkhlkhnjmacab
open Go.RowKit
set_option linter.unusedVariables false
set_option linter.unusedSimpArgs false

set_option maxRecDepth 100000 in
set_option maxHeartbeats 4000000 in
theorem exlt_walk (b : Ls) (ra : Option Addr) (rc : Nat) (d : Int) (w : World) (hl : b.2.1.length ≤ 9223372036854775807) (h : Pks w (.slice ra b.2.1.length rc) b.2.1) : Calls Try.prog 7 #[.agg #[.int .i64 b.1, .slice ra b.2.1.length rc, .int .i64 b.2.2], .int .i64 d] w fun e w' => e = .returned (.bool true) ∧ Below w.heap.size w w' := by
  obtain ⟨n, l, g⟩ := b
  simp only at hl h ⊢
  have H := Lib.hid h
  clear h
  have HSZ := Lib.hid (fun W => szls_any n g ra l.length rc 1048576 W (by omega) (by omega) hl)
  have hsz := szI_cases l.length 1048576 (by omega) (by omega)
  generalize szI l.length 1048576 = z at *
  have A0 := Lib.hid (C3.new w (.int .i64 n) (.slice ra l.length rc) (.int .i64 g) 31)
  have B0 := Lib.hid ((Below.refl w.heap.size w).alloc (Nat.le_refl _) (.cells #[.int .i64 n, .slice ra l.length rc, .int .i64 g] 31))
  rcases hsz with hz | ⟨hz0, hz1, hll⟩
  · subst hz
    obtain ⟨c0, c1, c2⟩ := A0.out
    go_enter Try.func7, Try.ntmps7
    go_wp2_with fail
    refine (HSZ.out _).mono ?_
    rintro e w1 ⟨rfl, hb1⟩
    have B1 := Lib.hid (B0.out.trans (hb1.mono B0.out.size))
    clear hb1 c0 c1 c2
    go_wp2_with fail
    go_ret
    exact ⟨rfl, B1.out⟩
  have hz' : ¬ z < 0 := by omega
  obtain ⟨q, hq⟩ : ∃ q, ltimer (n, l, g) d = q := ⟨_, rfl⟩
  have HQ := Lib.hid hq
  clear hq
  have hqq : (q != q) = false := by simp
  have TOR := Lib.hid (fun (W : World) (hb : Below w.heap.size w W) => tols_any n g l ra rc W (H.out.below hb) hll)
  obtain ⟨c0, c1, c2⟩ := A0.out
  go_enter Try.func7, Try.ntmps7
  go_wp2_with fail
  refine (HSZ.out _).mono ?_
  rintro e w1 ⟨rfl, hb1⟩
  have B1 := Lib.hid (B0.out.trans (hb1.mono B0.out.size))
  have A1 := Lib.hid (A0.out.below hb1)
  clear hb1 c0 c1 c2 A0 B0
  obtain ⟨c0, c1, c2⟩ := A1.out
  go_wp2_with fail
  refine (TOR.out _ B1.out).mono ?_
  rintro e w2 ⟨b1, k1, rfl, hb2, ho1⟩
  have B2 := Lib.hid (B1.out.trans (hb2.mono B1.out.size))
  have A2 := Lib.hid (A1.out.below hb2)
  have S2 := Lib.hid (sltimer_any n g d _ l _ ho1.pks hll)
  clear hb2 c0 c1 c2 A1 B1 ho1
  obtain ⟨c0, c1, c2⟩ := A2.out
  go_wp2_with fail
  refine S2.out.mono ?_
  rintro e w3 ⟨rfl, hb3⟩
  rw [HQ.out]
  have B3 := Lib.hid (B2.out.trans (hb3.mono B2.out.size))
  have A3 := Lib.hid (A2.out.below hb3)
  clear hb3 c0 c1 c2 A2 B2 S2
  obtain ⟨c0, c1, c2⟩ := A3.out
  go_wp2_with fail
  refine (TOR.out _ B3.out).mono ?_
  rintro e w4 ⟨b3, k3, rfl, hb4, ho3⟩
  have U4 : Hid (Below w4.heap.size w4 (w4.alloc (.cells #[.int .i64 n, .slice (some ⟨b3, 0, none⟩) l.length k3, .int .i64 g] 24))) := Lib.hid ((Below.refl _ _).alloc (Nat.le_refl _) _)
  have B4 := Lib.hid ((B3.out.trans (hb4.mono B3.out.size)).trans (U4.out.mono (B3.out.trans (hb4.mono B3.out.size)).size))
  have A4 := Lib.hid ((A3.out.below hb4).below U4.out)
  have Y4 := Lib.hid (C3.new w4 (.int .i64 n) (.slice (some ⟨b3, 0, none⟩) l.length k3) (.int .i64 g) 24)
  have O4 := Lib.hid (OwnPk.below ho3 U4.out)
  have I4 := Lib.hid (iltimer_any n g d _ l _ O4.out.pks hll)
  clear hb4 c0 c1 c2 A3 B3 ho3 U4
  obtain ⟨c0, c1, c2⟩ := Y4.out
  go_wp2_with fail
  refine I4.out.mono ?_
  rintro e w5 ⟨rfl, hb5⟩
  rw [HQ.out]
  have B5 := Lib.hid (B4.out.trans (hb5.mono B4.out.size))
  have A5 := Lib.hid (A4.out.below hb5)
  have Y5 := Lib.hid (Y4.out.below hb5)
  have O5 := Lib.hid (O4.out.below hb5)
  clear hb5 c0 c1 c2 A4 B4 Y4 O4 I4
  obtain ⟨c0, c1, c2⟩ := A5.out
  obtain ⟨d0, d1, d2⟩ := Y5.out
  have Ud : Below w5.heap.size w5 w5.drew := (Below.refl _ _).drew
  have AD := Lib.hid (A5.out.below Ud)
  have YD := Lib.hid (Y5.out.below Ud)
  have OD := Lib.hid (O5.out.below Ud)
  have BD := Lib.hid (B5.out.trans (Ud.mono B5.out.size))
  have kS := And.intro AD.out.c0 (And.intro AD.out.c1 (And.intro AD.out.c2 (And.intro YD.out.c0 (And.intro YD.out.c1 YD.out.c2))))
  clear Ud
  generalize w4.heap.size = p3 at *
  go_wp2_with fail
  go_region_held3 (fun W => W.cell? ⟨w.heap.size, 0, none⟩ = some (.int .i64 n) ∧ W.cell? ⟨w.heap.size, 1, none⟩ = some (.slice ra l.length rc) ∧ W.cell? ⟨w.heap.size, 2, none⟩ = some (.int .i64 g) ∧ W.cell? ⟨p3, 0, none⟩ = some (.int .i64 n) ∧ W.cell? ⟨p3, 1, none⟩ = some (.slice (some ⟨b3, 0, none⟩) l.length k3) ∧ W.cell? ⟨p3, 2, none⟩ = some (.int .i64 g)) (with_reducible first | assumption | exact kS | exact kT | exact kU)
    ((first
      | (go_at_call 11; (with_reducible refine (eqls_any n g l (some ⟨b3, 0, none⟩) (some ⟨b7, 0, none⟩) k3 k7 _ O7'.out.pks O7.out.pks hll).mono ?_); rintro e w8 ⟨rfl, hb8⟩; have B8 := Lib.hid (B7.out.trans (hb8.mono B7.out.size)); have A8 := A7.out.below hb8; have Y8 := Y7.out.below hb8; have kU := And.intro A8.c0 (And.intro A8.c1 (And.intro A8.c2 (And.intro Y8.c0 (And.intro Y8.c1 Y8.c2)))))
      | (go_at_call 16; (with_reducible refine (TOR.out _ BD.out).mono ?_); rintro e w7 ⟨b7, k7, rfl, hb7, ho7⟩; have A7 := Lib.hid (AD.out.below hb7); have Y7 := Lib.hid (YD.out.below hb7); have O7' := Lib.hid (OD.out.below hb7); have O7 := Lib.hid ho7; have B7 := Lib.hid (BD.out.trans (hb7.mono BD.out.size)); have kT := And.intro A7.out.c0 (And.intro A7.out.c1 (And.intro A7.out.c2 (And.intro Y7.out.c0 (And.intro Y7.out.c1 Y7.out.c2)))))))
  clear kS kT kU c0 c1 c2 d0 d1 d2 A8 Y8
  go_wp2_with fail
  go_ret
  exact ⟨rfl, B8.out⟩

end Go.Proofs.Ytpbkhlkhnjmacab
