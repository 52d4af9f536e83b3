/- The exact law of RecvValid: the walk. -/
import Derived.Test.YthdhjjbgegcncaaExRcq
namespace Go.Proofs.Ythdhjjbgegcncaa
open Go.RowKit
set_option linter.unusedVariables false
set_option linter.unusedSimpArgs false

set_option maxRecDepth 100000 in
set_option maxHeartbeats 4000000 in
theorem exrcv_walk (rd fi li : Int) (ra : Option Addr) (rc : Nat) (l : List Pc) (w : World) (hl : l.length ≤ 9223372036854775807) (h : Pcn w (.slice ra l.length rc) l) (hp : ∀ p ∈ l, PIn p) : Calls Try.prog 4 #[.agg #[.int .i64 rd, .slice ra l.length rc, .int .i64 fi, .int .i64 li]] w fun e w' => e = .returned (.bool true) ∧ Below w.heap.size w w' := by
  obtain ⟨q, hq⟩ : ∃ q, decide (rvok rd l fi li) = q := ⟨_, rfl⟩
  have HQ := Lib.hid hq
  clear hq
  have hqq : (q != q) = false := by cases q <;> rfl
  have H := Lib.hid h
  have HPI := Lib.hid hp
  have HSZ := Lib.hid (fun W (hb : Below w.heap.size w W) => szrc_any (.slice ra l.length rc) l rd fi li 1048576 W (h.below hb) (by omega) (by omega) hl (pin_sz hp))
  clear h hp
  have A0 := Lib.hid (C4.new w (.int .i64 rd) (.slice ra l.length rc) (.int .i64 fi) (.int .i64 li) 32)
  have B0 := Lib.hid ((Below.refl w.heap.size w).alloc (Nat.le_refl _) (.cells #[.int .i64 rd, .slice ra l.length rc, .int .i64 fi, .int .i64 li] 32))
  obtain ⟨c0, c1, c2, c3⟩ := A0.out
  go_enter Try.func4, Try.ntmps4
  go_wp2_with fail
  refine (HSZ.out _ B0.out).mono ?_
  rintro e w1 ⟨z, rfl, hb1, hz⟩
  have B1 := Lib.hid (B0.out.trans (hb1.mono B0.out.size))
  have A1 := Lib.hid (A0.out.below hb1)
  clear hb1 c0 c1 c2 c3 A0 B0
  rcases hz with rfl | ⟨hz0, hll, hss⟩
  · go_wp2_with fail
    go_ret
    exact ⟨rfl, B1.out⟩
  have hz' : ¬ z < 0 := by omega
  have HS := Lib.hid (szd_of HPI.out hll hss)
  clear hss hz0
  have TOR := Lib.hid (fun (W : World) (hb : Below w.heap.size w W) => torc_any (.slice ra l.length rc) l rd fi li W (H.out.below hb) hll)
  obtain ⟨c0, c1, c2, c3⟩ := A1.out
  go_wp2_with fail
  refine (TOR.out _ B1.out).mono ?_
  rintro e w2 ⟨b1, k1, rfl, hb2, ho1⟩
  have B2 := Lib.hid (B1.out.trans (hb2.mono B1.out.size))
  have A2 := Lib.hid (A1.out.below hb2)
  have S2 := Lib.hid (sv_own (rd := rd) (fi := fi) (li := li) ho1 HS.out)
  rw [HQ.out] at S2
  clear hb2 c0 c1 c2 c3 A1 B1 ho1
  obtain ⟨c0, c1, c2, c3⟩ := A2.out
  go_wp2_with fail
  refine S2.out.mono ?_
  rintro e w3 ⟨rfl, hb3⟩
  have B3 := Lib.hid (B2.out.trans (hb3.mono B2.out.size))
  have A3 := Lib.hid (A2.out.below hb3)
  clear hb3 c0 c1 c2 c3 A2 B2 S2
  obtain ⟨c0, c1, c2, c3⟩ := A3.out
  go_wp2_with fail
  refine (TOR.out _ B3.out).mono ?_
  rintro e w4 ⟨b3, k3, rfl, hb4, ho3⟩
  have U4 : Hid (Below w4.heap.size w4 (w4.alloc (.cells #[.int .i64 rd, .slice (some ⟨b3, 0, none⟩) l.length k3, .int .i64 fi, .int .i64 li] 24))) := Lib.hid ((Below.refl _ _).alloc (Nat.le_refl _) _)
  have B4 := Lib.hid ((B3.out.trans (hb4.mono B3.out.size)).trans (U4.out.mono (B3.out.trans (hb4.mono B3.out.size)).size))
  have A4 := Lib.hid ((A3.out.below hb4).below U4.out)
  have Y4 := Lib.hid (C4.new w4 (.int .i64 rd) (.slice (some ⟨b3, 0, none⟩) l.length k3) (.int .i64 fi) (.int .i64 li) 24)
  have O4 := Lib.hid (OwnPc.below ho3 U4.out)
  have I4 := Lib.hid (iv_own (rd := rd) (fi := fi) (li := li) O4.out HS.out)
  rw [HQ.out] at I4
  clear hb4 c0 c1 c2 c3 A3 B3 ho3 U4
  obtain ⟨c0, c1, c2, c3⟩ := Y4.out
  go_wp2_with fail
  refine I4.out.mono ?_
  rintro e w5 ⟨rfl, hb5⟩
  have B5 := Lib.hid (B4.out.trans (hb5.mono B4.out.size))
  have A5 := Lib.hid (A4.out.below hb5)
  have Y5 := Lib.hid (Y4.out.below hb5)
  have O5 := Lib.hid (O4.out.below hb5)
  clear hb5 c0 c1 c2 c3 A4 B4 Y4 O4 I4
  obtain ⟨c0, c1, c2, c3⟩ := A5.out
  obtain ⟨d0, d1, d2, d3⟩ := Y5.out
  have Ud : Below w5.heap.size w5 w5.drew := (Below.refl _ _).drew
  have AD := Lib.hid (A5.out.below Ud)
  have YD := Lib.hid (Y5.out.below Ud)
  have OD := Lib.hid (O5.out.below Ud)
  have BD := Lib.hid (B5.out.trans (Ud.mono B5.out.size))
  have kS := And.intro AD.out.c0 (And.intro AD.out.c1 (And.intro AD.out.c2 (And.intro AD.out.c3 (And.intro YD.out.c0 (And.intro YD.out.c1 (And.intro YD.out.c2 YD.out.c3))))))
  clear Ud
  generalize w4.heap.size = p3 at *
  cases q
  all_goals
    go_wp2_with fail
    go_region_held3 (fun W => W.cell? ⟨w.heap.size, 0, none⟩ = some (.int .i64 rd) ∧ W.cell? ⟨w.heap.size, 1, none⟩ = some (.slice ra l.length rc) ∧ W.cell? ⟨w.heap.size, 2, none⟩ = some (.int .i64 fi) ∧ W.cell? ⟨w.heap.size, 3, none⟩ = some (.int .i64 li) ∧ W.cell? ⟨p3, 0, none⟩ = some (.int .i64 rd) ∧ W.cell? ⟨p3, 1, none⟩ = some (.slice (some ⟨b3, 0, none⟩) l.length k3) ∧ W.cell? ⟨p3, 2, none⟩ = some (.int .i64 fi) ∧ W.cell? ⟨p3, 3, none⟩ = some (.int .i64 li)) (with_reducible first | assumption | exact kS | exact kT | exact kU)
      ((first
        | (go_at_call 12; (with_reducible refine (eqrc_any rd fi li (.slice (some ⟨b3, 0, none⟩) l.length k3) (.slice (some ⟨b7, 0, none⟩) l.length k7) l _ O7'.out.n O7.out.n hll).mono ?_); rintro e w8 ⟨rfl, hb8⟩; have B8 := Lib.hid (B7.out.trans (hb8.mono B7.out.size)); have A8 := A7.out.below hb8; have Y8 := Y7.out.below hb8; have kU := And.intro A8.c0 (And.intro A8.c1 (And.intro A8.c2 (And.intro A8.c3 (And.intro Y8.c0 (And.intro Y8.c1 (And.intro Y8.c2 Y8.c3)))))))
        | (go_at_call 17; (with_reducible refine (TOR.out _ BD.out).mono ?_); rintro e w7 ⟨b7, k7, rfl, hb7, ho7⟩; have A7 := Lib.hid (AD.out.below hb7); have Y7 := Lib.hid (YD.out.below hb7); have O7' := Lib.hid (OD.out.below hb7); have O7 := Lib.hid ho7; have B7 := Lib.hid (BD.out.trans (hb7.mono BD.out.size)); have kT := And.intro A7.out.c0 (And.intro A7.out.c1 (And.intro A7.out.c2 (And.intro A7.out.c3 (And.intro Y7.out.c0 (And.intro Y7.out.c1 (And.intro Y7.out.c2 Y7.out.c3)))))))))
    clear kS kT kU c0 c1 c2 c3 d0 d1 d2 d3 A8 Y8
    go_wp2_with fail
    go_ret
    exact ⟨rfl, B8.out⟩

end Go.Proofs.Ythdhjjbgegcncaa
