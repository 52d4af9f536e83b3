/- The law FrameEliciting: the walk. -/
import Derived.Test.YthflokonihegbaaLawF
namespace Go.Proofs.Ythflokonihegbaa
open Go.RowKit
set_option linter.unusedVariables false
set_option linter.unusedSimpArgs false

set_option maxRecDepth 100000 in
set_option maxHeartbeats 1000000 in
theorem felic_walk (a : Option Addr) (len cap : Nat) (zs : List Int) (w : World) (h : IsRow .u8 w a len cap zs) :
    Calls Try.prog 11 #[.slice a len cap] w fun e w' => e = .returned (.bool true) ∧ Below w.heap.size w w' := by
  have H := Lib.hid h
  clear h
  by_cases hl : 1048576 < len
  · go_enter Try.func11, Try.ntmps11
    go_wp2
    go_ret
    exact ⟨rfl, Below.refl _ _⟩
  go_enter Try.func11, Try.ntmps11
  go_wp2_with fail
  refine (drawFEli_any a len cap zs w H.out).mono ?_
  rintro e w1 ⟨f, ra, rc, hf, rfl, hb, ho⟩
  have hll := frB_lens hf
  have IL := Lib.hid (fun W h => ifel_any f (.slice ra f.rs.length rc) W h hll.1 hll.2)
  have SL := Lib.hid (fun W h => sfel_any f (.slice ra f.rs.length rc) W h hll.1 hll.2)
  have IV := Lib.hid (fun W h => ifok_any f (.slice ra f.rs.length rc) W h hll.1 hll.2)
  have HRw1 := Lib.hid (Rngs.of_own ho)
  have HBw1 := Lib.hid hb
  have HL : Hid (fel f = (fok f && decide (f.k ≠ 0 ∧ f.k ≠ 2 ∧ f.k ≠ 10))) := Lib.hid rfl
  clear hb ho hf hll
  unfold frV at IL SL IV ⊢
  obtain ⟨ok, hok⟩ : ∃ ok, fok f = ok := ⟨_, rfl⟩
  rw [hok] at IV HL
  obtain ⟨q, hq⟩ : ∃ q, fel f = q := ⟨_, rfl⟩
  rw [hq] at IL SL HL
  clear hok hq
  have FX : Hid (Frm (w1.alloc (.cells #[.int .i64 f.k, .int .i64 f.a, .int .i64 f.b, .int .i64 f.c, .string f.d, .slice ra f.rs.length rc] 25)) w1.heap.size [.int .i64 f.k, .int .i64 f.a, .int .i64 f.b, .int .i64 f.c, .string f.d, .slice ra f.rs.length rc]) := Lib.hid (Frm.new w1 25 [.int .i64 f.k, .int .i64 f.a, .int .i64 f.b, .int .i64 f.c, .string f.d, .slice ra f.rs.length rc])
  have HBW1 : Hid (Below w.heap.size w (w1.alloc (.cells #[.int .i64 f.k, .int .i64 f.a, .int .i64 f.b, .int .i64 f.c, .string f.d, .slice ra f.rs.length rc] 25))) := Lib.hid (HBw1.out.alloc HBw1.out.size _)
  have HRW1 : Hid (Rngs (w1.alloc (.cells #[.int .i64 f.k, .int .i64 f.a, .int .i64 f.b, .int .i64 f.c, .string f.d, .slice ra f.rs.length rc] 25)) (.slice ra f.rs.length rc) f.rs) := Lib.hid (HRw1.out.below ((Below.refl _ _).alloc (Nat.le_refl _) _))
  have hsW1 : (w1.alloc (.cells #[.int .i64 f.k, .int .i64 f.a, .int .i64 f.b, .int .i64 f.c, .string f.d, .slice ra f.rs.length rc] 25)).heap.size = w1.heap.size + 1 := by simp
  go_wp2_with fail
  generalize (w1.alloc (.cells #[.int .i64 f.k, .int .i64 f.a, .int .i64 f.b, .int .i64 f.c, .string f.d, .slice ra f.rs.length rc] 25)) = W1 at *
  refine (IL.out _ HRW1.out).mono ?_
  rintro e w2 ⟨rfl, hb⟩
  have HBw2 := Lib.hid (HBW1.out.trans (hb.mono HBW1.out.size))
  have HRw2 := Lib.hid (HRW1.out.below hb)
  have FY := FX.out.below hb (by omega)
  obtain ⟨c0, c1, c2, c3, c4, c5⟩ : w2.cell? ⟨w1.heap.size, 0, none⟩ = some (.int .i64 f.k) ∧ w2.cell? ⟨w1.heap.size, 1, none⟩ = some (.int .i64 f.a) ∧ w2.cell? ⟨w1.heap.size, 2, none⟩ = some (.int .i64 f.b) ∧ w2.cell? ⟨w1.heap.size, 3, none⟩ = some (.int .i64 f.c) ∧ w2.cell? ⟨w1.heap.size, 4, none⟩ = some (.string f.d) ∧ w2.cell? ⟨w1.heap.size, 5, none⟩ = some (.slice ra f.rs.length rc) := ⟨FY 0, FY 1, FY 2, FY 3, FY 4, FY 5⟩
  have FX := Lib.hid FY
  have hzw2 := hb.size
  clear hb FY
  go_wp2_with fail
  refine (SL.out _ HRw2.out).mono ?_
  rintro e w3 ⟨rfl, hb⟩
  have HBw3 := Lib.hid (HBw2.out.trans (hb.mono HBw2.out.size))
  have HRw3 := Lib.hid (HRw2.out.below hb)
  have FY := FX.out.below hb (by omega)
  obtain ⟨c0, c1, c2, c3, c4, c5⟩ : w3.cell? ⟨w1.heap.size, 0, none⟩ = some (.int .i64 f.k) ∧ w3.cell? ⟨w1.heap.size, 1, none⟩ = some (.int .i64 f.a) ∧ w3.cell? ⟨w1.heap.size, 2, none⟩ = some (.int .i64 f.b) ∧ w3.cell? ⟨w1.heap.size, 3, none⟩ = some (.int .i64 f.c) ∧ w3.cell? ⟨w1.heap.size, 4, none⟩ = some (.string f.d) ∧ w3.cell? ⟨w1.heap.size, 5, none⟩ = some (.slice ra f.rs.length rc) := ⟨FY 0, FY 1, FY 2, FY 3, FY 4, FY 5⟩
  have FX := Lib.hid FY
  have hzw3 := hb.size
  clear hb FY
  cases ok
  · have hq : q = false := by rw [HL.out]; rfl
    subst hq
    go_wp2_with fail
    refine (IV.out _ HRw3.out).mono ?_
    rintro e w4 ⟨rfl, hb⟩
    have HBw4 := Lib.hid (HBw3.out.trans (hb.mono HBw3.out.size))
    have HRw4 := Lib.hid (HRw3.out.below hb)
    have FY := FX.out.below hb (by omega)
    obtain ⟨c0, c1, c2, c3, c4, c5⟩ : w4.cell? ⟨w1.heap.size, 0, none⟩ = some (.int .i64 f.k) ∧ w4.cell? ⟨w1.heap.size, 1, none⟩ = some (.int .i64 f.a) ∧ w4.cell? ⟨w1.heap.size, 2, none⟩ = some (.int .i64 f.b) ∧ w4.cell? ⟨w1.heap.size, 3, none⟩ = some (.int .i64 f.c) ∧ w4.cell? ⟨w1.heap.size, 4, none⟩ = some (.string f.d) ∧ w4.cell? ⟨w1.heap.size, 5, none⟩ = some (.slice ra f.rs.length rc) := ⟨FY 0, FY 1, FY 2, FY 3, FY 4, FY 5⟩
    have FX := Lib.hid FY
    have hzw4 := hb.size
    clear hb FY
    go_wp2_with fail
    go_ret
    exact ⟨rfl, HBw4.out⟩
  · by_cases k0 : f.k = 0
    · have hq : q = false := by rw [HL.out, Bool.true_and]; exact decide_eq_false fun h => h.1 k0
      subst hq
      have K0 : Hid ((f.k != 0) = false) := Lib.hid (by rw [k0]; rfl)
      clear k0
      go_wp2_with fail
      refine (IV.out _ HRw3.out).mono ?_
      rintro e w4 ⟨rfl, hb⟩
      have HBw4 := Lib.hid (HBw3.out.trans (hb.mono HBw3.out.size))
      have HRw4 := Lib.hid (HRw3.out.below hb)
      have FY := FX.out.below hb (by omega)
      obtain ⟨c0, c1, c2, c3, c4, c5⟩ : w4.cell? ⟨w1.heap.size, 0, none⟩ = some (.int .i64 f.k) ∧ w4.cell? ⟨w1.heap.size, 1, none⟩ = some (.int .i64 f.a) ∧ w4.cell? ⟨w1.heap.size, 2, none⟩ = some (.int .i64 f.b) ∧ w4.cell? ⟨w1.heap.size, 3, none⟩ = some (.int .i64 f.c) ∧ w4.cell? ⟨w1.heap.size, 4, none⟩ = some (.string f.d) ∧ w4.cell? ⟨w1.heap.size, 5, none⟩ = some (.slice ra f.rs.length rc) := ⟨FY 0, FY 1, FY 2, FY 3, FY 4, FY 5⟩
      have FX := Lib.hid FY
      have hzw4 := hb.size
      clear hb FY
      have n0 := K0.out
      go_wp2_with fail
      go_ret
      exact ⟨rfl, HBw4.out⟩
    · by_cases k2 : f.k = 2
      · have hq : q = false := by rw [HL.out, Bool.true_and]; exact decide_eq_false fun h => h.2.1 k2
        subst hq
        have K0 : Hid ((f.k != 0) = true) := Lib.hid (bnt k0)
        have K2 : Hid ((f.k != 2) = false) := Lib.hid (by rw [k2]; rfl)
        clear k0 k2
        go_wp2_with fail
        refine (IV.out _ HRw3.out).mono ?_
        rintro e w4 ⟨rfl, hb⟩
        have HBw4 := Lib.hid (HBw3.out.trans (hb.mono HBw3.out.size))
        have HRw4 := Lib.hid (HRw3.out.below hb)
        have FY := FX.out.below hb (by omega)
        obtain ⟨c0, c1, c2, c3, c4, c5⟩ : w4.cell? ⟨w1.heap.size, 0, none⟩ = some (.int .i64 f.k) ∧ w4.cell? ⟨w1.heap.size, 1, none⟩ = some (.int .i64 f.a) ∧ w4.cell? ⟨w1.heap.size, 2, none⟩ = some (.int .i64 f.b) ∧ w4.cell? ⟨w1.heap.size, 3, none⟩ = some (.int .i64 f.c) ∧ w4.cell? ⟨w1.heap.size, 4, none⟩ = some (.string f.d) ∧ w4.cell? ⟨w1.heap.size, 5, none⟩ = some (.slice ra f.rs.length rc) := ⟨FY 0, FY 1, FY 2, FY 3, FY 4, FY 5⟩
        have FX := Lib.hid FY
        have hzw4 := hb.size
        clear hb FY
        have n0 := K0.out
        have n2 := K2.out
        go_wp2_with fail
        go_ret
        exact ⟨rfl, HBw4.out⟩
      · by_cases k10 : f.k = 10
        · have hq : q = false := by rw [HL.out, Bool.true_and]; exact decide_eq_false fun h => h.2.2 k10
          subst hq
          have K0 : Hid ((f.k != 0) = true) := Lib.hid (bnt k0)
          have K2 : Hid ((f.k != 2) = true) := Lib.hid (bnt k2)
          have K10 : Hid ((f.k != 10) = false) := Lib.hid (by rw [k10]; rfl)
          clear k0 k2 k10
          go_wp2_with fail
          refine (IV.out _ HRw3.out).mono ?_
          rintro e w4 ⟨rfl, hb⟩
          have HBw4 := Lib.hid (HBw3.out.trans (hb.mono HBw3.out.size))
          have HRw4 := Lib.hid (HRw3.out.below hb)
          have FY := FX.out.below hb (by omega)
          obtain ⟨c0, c1, c2, c3, c4, c5⟩ : w4.cell? ⟨w1.heap.size, 0, none⟩ = some (.int .i64 f.k) ∧ w4.cell? ⟨w1.heap.size, 1, none⟩ = some (.int .i64 f.a) ∧ w4.cell? ⟨w1.heap.size, 2, none⟩ = some (.int .i64 f.b) ∧ w4.cell? ⟨w1.heap.size, 3, none⟩ = some (.int .i64 f.c) ∧ w4.cell? ⟨w1.heap.size, 4, none⟩ = some (.string f.d) ∧ w4.cell? ⟨w1.heap.size, 5, none⟩ = some (.slice ra f.rs.length rc) := ⟨FY 0, FY 1, FY 2, FY 3, FY 4, FY 5⟩
          have FX := Lib.hid FY
          have hzw4 := hb.size
          clear hb FY
          have n0 := K0.out
          have n2 := K2.out
          have n10 := K10.out
          go_wp2_with fail
          go_ret
          exact ⟨rfl, HBw4.out⟩
        · have hq : q = true := by rw [HL.out, Bool.true_and]; exact decide_eq_true ⟨k0, k2, k10⟩
          subst hq
          have K0 : Hid ((f.k != 0) = true) := Lib.hid (bnt k0)
          have K2 : Hid ((f.k != 2) = true) := Lib.hid (bnt k2)
          have K10 : Hid ((f.k != 10) = true) := Lib.hid (bnt k10)
          clear k0 k2 k10
          go_wp2_with fail
          refine (IV.out _ HRw3.out).mono ?_
          rintro e w4 ⟨rfl, hb⟩
          have HBw4 := Lib.hid (HBw3.out.trans (hb.mono HBw3.out.size))
          have HRw4 := Lib.hid (HRw3.out.below hb)
          have FY := FX.out.below hb (by omega)
          obtain ⟨c0, c1, c2, c3, c4, c5⟩ : w4.cell? ⟨w1.heap.size, 0, none⟩ = some (.int .i64 f.k) ∧ w4.cell? ⟨w1.heap.size, 1, none⟩ = some (.int .i64 f.a) ∧ w4.cell? ⟨w1.heap.size, 2, none⟩ = some (.int .i64 f.b) ∧ w4.cell? ⟨w1.heap.size, 3, none⟩ = some (.int .i64 f.c) ∧ w4.cell? ⟨w1.heap.size, 4, none⟩ = some (.string f.d) ∧ w4.cell? ⟨w1.heap.size, 5, none⟩ = some (.slice ra f.rs.length rc) := ⟨FY 0, FY 1, FY 2, FY 3, FY 4, FY 5⟩
          have FX := Lib.hid FY
          have hzw4 := hb.size
          clear hb FY
          have n0 := K0.out
          have n2 := K2.out
          have n10 := K10.out
          go_wp2_with fail
          go_ret
          exact ⟨rfl, HBw4.out⟩
end Go.Proofs.Ythflokonihegbaa
