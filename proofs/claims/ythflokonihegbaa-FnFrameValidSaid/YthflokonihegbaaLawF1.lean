/- The law FrameValid: the walk. -/
import Derived.Test.YthflokonihegbaaLawF
namespace Go.Proofs.Ythflokonihegbaa
open Go.RowKit
set_option linter.unusedVariables false
set_option linter.unusedSimpArgs false

set_option maxRecDepth 100000 in
set_option maxHeartbeats 1000000 in
theorem fvalid_walk (a : Option Addr) (len cap : Nat) (zs : List Int) (w : World) (h : IsRow .u8 w a len cap zs) :
    Calls Try.prog 6 #[.slice a len cap] w fun e w' => e = .returned (.bool true) ∧ Below w.heap.size w w' := by
  have H := Lib.hid h
  clear h
  by_cases hl : 1048576 < len
  · go_enter Try.func6, Try.ntmps6
    go_wp2
    go_ret
    exact ⟨rfl, Below.refl _ _⟩
  go_enter Try.func6, Try.ntmps6
  go_wp2_with fail
  refine (drawFVal_any a len cap zs w H.out).mono ?_
  rintro e w1 ⟨f, ra, rc, hf, rfl, hb, ho⟩
  have hll := frB_lens hf
  have IV := Lib.hid (fun W h => ifok_any f (.slice ra f.rs.length rc) W h hll.1 hll.2)
  have SV := Lib.hid (fun W h => sfok_any f (.slice ra f.rs.length rc) W h hll.1 hll.2)
  have IE := Lib.hid (fun W h => ifenc_any f (.slice ra f.rs.length rc) W h hll.1 hll.2)
  have HRw1 := Lib.hid (Rngs.of_own ho)
  have HBw1 := Lib.hid hb
  have HE := Lib.hid (fencS_empty f)
  clear hb ho hf hll
  unfold frV at IV SV IE ⊢
  obtain ⟨ok, hok⟩ : ∃ ok, fok f = ok := ⟨_, rfl⟩
  rw [hok] at IV SV HE
  obtain ⟨t, ht⟩ : ∃ t, fencS f = t := ⟨_, rfl⟩
  rw [ht] at IE HE
  clear hok ht
  have FX : Hid (Frm (w1.alloc (.cells #[.int .i64 f.k, .int .i64 f.a, .int .i64 f.b, .int .i64 f.c, .string f.d, .slice ra f.rs.length rc] 25)) w1.heap.size [.int .i64 f.k, .int .i64 f.a, .int .i64 f.b, .int .i64 f.c, .string f.d, .slice ra f.rs.length rc]) := Lib.hid (Frm.new w1 25 [.int .i64 f.k, .int .i64 f.a, .int .i64 f.b, .int .i64 f.c, .string f.d, .slice ra f.rs.length rc])
  have HBW1 : Hid (Below w.heap.size w (w1.alloc (.cells #[.int .i64 f.k, .int .i64 f.a, .int .i64 f.b, .int .i64 f.c, .string f.d, .slice ra f.rs.length rc] 25))) := Lib.hid (HBw1.out.alloc HBw1.out.size _)
  have HRW1 : Hid (Rngs (w1.alloc (.cells #[.int .i64 f.k, .int .i64 f.a, .int .i64 f.b, .int .i64 f.c, .string f.d, .slice ra f.rs.length rc] 25)) (.slice ra f.rs.length rc) f.rs) := Lib.hid (HRw1.out.below ((Below.refl _ _).alloc (Nat.le_refl _) _))
  have hsW1 : (w1.alloc (.cells #[.int .i64 f.k, .int .i64 f.a, .int .i64 f.b, .int .i64 f.c, .string f.d, .slice ra f.rs.length rc] 25)).heap.size = w1.heap.size + 1 := by simp
  go_wp2_with fail
  generalize (w1.alloc (.cells #[.int .i64 f.k, .int .i64 f.a, .int .i64 f.b, .int .i64 f.c, .string f.d, .slice ra f.rs.length rc] 25)) = W1 at *
  refine (IV.out _ HRW1.out).mono ?_
  rintro e w2 ⟨rfl, hb⟩
  have HBw2 := Lib.hid (HBW1.out.trans (hb.mono HBW1.out.size))
  have HRw2 := Lib.hid (HRW1.out.below hb)
  have FY := FX.out.below hb (by omega)
  obtain ⟨c0, c1, c2, c3, c4, c5⟩ : w2.cell? ⟨w1.heap.size, 0, none⟩ = some (.int .i64 f.k) ∧ w2.cell? ⟨w1.heap.size, 1, none⟩ = some (.int .i64 f.a) ∧ w2.cell? ⟨w1.heap.size, 2, none⟩ = some (.int .i64 f.b) ∧ w2.cell? ⟨w1.heap.size, 3, none⟩ = some (.int .i64 f.c) ∧ w2.cell? ⟨w1.heap.size, 4, none⟩ = some (.string f.d) ∧ w2.cell? ⟨w1.heap.size, 5, none⟩ = some (.slice ra f.rs.length rc) := ⟨FY 0, FY 1, FY 2, FY 3, FY 4, FY 5⟩
  have FX := Lib.hid FY
  have hzw2 := hb.size
  clear hb FY
  go_wp2_with fail
  refine (SV.out _ HRw2.out).mono ?_
  rintro e w3 ⟨rfl, hb⟩
  have HBw3 := Lib.hid (HBw2.out.trans (hb.mono HBw2.out.size))
  have HRw3 := Lib.hid (HRw2.out.below hb)
  have FY := FX.out.below hb (by omega)
  obtain ⟨c0, c1, c2, c3, c4, c5⟩ : w3.cell? ⟨w1.heap.size, 0, none⟩ = some (.int .i64 f.k) ∧ w3.cell? ⟨w1.heap.size, 1, none⟩ = some (.int .i64 f.a) ∧ w3.cell? ⟨w1.heap.size, 2, none⟩ = some (.int .i64 f.b) ∧ w3.cell? ⟨w1.heap.size, 3, none⟩ = some (.int .i64 f.c) ∧ w3.cell? ⟨w1.heap.size, 4, none⟩ = some (.string f.d) ∧ w3.cell? ⟨w1.heap.size, 5, none⟩ = some (.slice ra f.rs.length rc) := ⟨FY 0, FY 1, FY 2, FY 3, FY 4, FY 5⟩
  have FX := Lib.hid FY
  have hzw3 := hb.size
  clear hb FY
  cases ok
  · have he : t.toList.isEmpty = true := HE.out
    go_wp2_with fail
    refine (IE.out _ HRw3.out).mono ?_
    rintro e w4 ⟨rfl, hb⟩
    have HBw4 := Lib.hid (HBw3.out.trans (hb.mono HBw3.out.size))
    have hzw4 := hb.size
    clear hb
    go_wp2_with fail
    go_ret
    exact ⟨rfl, HBw4.out⟩
  · have he : t.toList.isEmpty = false := HE.out
    go_wp2_with fail
    refine (IE.out _ HRw3.out).mono ?_
    rintro e w4 ⟨rfl, hb⟩
    have HBw4 := Lib.hid (HBw3.out.trans (hb.mono HBw3.out.size))
    have hzw4 := hb.size
    clear hb
    go_wp2_with fail
    go_ret
    exact ⟨rfl, HBw4.out⟩
end Go.Proofs.Ythflokonihegbaa
