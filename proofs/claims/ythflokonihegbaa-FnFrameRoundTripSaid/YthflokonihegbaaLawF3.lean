/- The law FrameRoundTrip: the walk. -/
import Derived.Test.YthflokonihegbaaLawF
namespace Go.Proofs.Ythflokonihegbaa
open Go.RowKit
set_option linter.unusedVariables false
set_option linter.unusedSimpArgs false

set_option maxRecDepth 100000 in
set_option maxHeartbeats 1000000 in
theorem fround_walk (a : Option Addr) (len cap : Nat) (zs : List Int) (a1 : Option Addr) (len1 cap1 : Nat) (zs1 : List Int) (w : World) (h : IsRow .u8 w a len cap zs) (h1 : IsRow .u8 w a1 len1 cap1 zs1) :
    Calls Try.prog 3 #[.slice a len cap, .slice a1 len1 cap1] w fun e w' => e = .returned (.bool true) ∧ Below w.heap.size w w' := by
  have H := Lib.hid h
  obtain ⟨tb, htb, hcv⟩ := conv_arg_any h1
  have HC := Lib.hid hcv
  clear h h1 hcv
  by_cases hl : 1048576 < len
  · clear htb
    go_enter Try.func3, Try.ntmps3
    go_wp2
    go_ret
    exact ⟨rfl, Below.refl _ _⟩
  by_cases hl1 : 1048576 < len1
  · clear htb
    go_enter Try.func3, Try.ntmps3
    go_wp2
    go_ret
    exact ⟨rfl, Below.refl _ _⟩
  have htb' : tb.size ≤ 1048576 := by omega
  clear htb
  go_enter Try.func3, Try.ntmps3
  go_wp2_with fail
  refine (drawFEnc_any a len cap zs w H.out).mono ?_
  rintro e w1 ⟨f, ra, rc, hf, rfl, hb, ho⟩
  have hll := frB_lens hf
  have IE := Lib.hid (fun W h => ifenc_any f (.slice ra f.rs.length rc) W h hll.1 hll.2)
  have SE := Lib.hid (fun W h => sfenc_any f (.slice ra f.rs.length rc) W h hll.1 hll.2)
  have HRw1 := Lib.hid (Rngs.of_own ho)
  have HBw1 := Lib.hid hb
  have HE := Lib.hid (fencS_empty f)
  have HLL := Lib.hid hll
  clear hb ho hf hll
  unfold frV at IE SE ⊢
  obtain ⟨t, ht⟩ : ∃ t, fencS f = t := ⟨_, rfl⟩
  rw [ht] at IE SE HE
  have HT := Lib.hid ht
  clear ht
  have FX : Hid (Frm (w1.alloc (.cells #[.int .i64 f.k, .int .i64 f.a, .int .i64 f.b, .int .i64 f.c, .string f.d, .slice ra f.rs.length rc] 25)) w1.heap.size [.int .i64 f.k, .int .i64 f.a, .int .i64 f.b, .int .i64 f.c, .string f.d, .slice ra f.rs.length rc]) := Lib.hid (Frm.new w1 25 [.int .i64 f.k, .int .i64 f.a, .int .i64 f.b, .int .i64 f.c, .string f.d, .slice ra f.rs.length rc])
  have HBW1 : Hid (Below w.heap.size w (w1.alloc (.cells #[.int .i64 f.k, .int .i64 f.a, .int .i64 f.b, .int .i64 f.c, .string f.d, .slice ra f.rs.length rc] 25))) := Lib.hid (HBw1.out.alloc HBw1.out.size _)
  have HRW1 : Hid (Rngs (w1.alloc (.cells #[.int .i64 f.k, .int .i64 f.a, .int .i64 f.b, .int .i64 f.c, .string f.d, .slice ra f.rs.length rc] 25)) (.slice ra f.rs.length rc) f.rs) := Lib.hid (HRw1.out.below ((Below.refl _ _).alloc (Nat.le_refl _) _))
  have hsW1 : (w1.alloc (.cells #[.int .i64 f.k, .int .i64 f.a, .int .i64 f.b, .int .i64 f.c, .string f.d, .slice ra f.rs.length rc] 25)).heap.size = w1.heap.size + 1 := by simp
  go_wp2_with fail
  generalize (w1.alloc (.cells #[.int .i64 f.k, .int .i64 f.a, .int .i64 f.b, .int .i64 f.c, .string f.d, .slice ra f.rs.length rc] 25)) = W1 at *
  refine (IE.out _ HRW1.out).mono ?_
  rintro e w2 ⟨rfl, hb⟩
  have HBw2 := Lib.hid (HBW1.out.trans (hb.mono HBW1.out.size))
  have HRw2 := Lib.hid (HRW1.out.below hb)
  have FY := FX.out.below hb (by omega)
  obtain ⟨c0, c1, c2, c3, c4, c5⟩ : w2.cell? ⟨w1.heap.size, 0, none⟩ = some (.int .i64 f.k) ∧ w2.cell? ⟨w1.heap.size, 1, none⟩ = some (.int .i64 f.a) ∧ w2.cell? ⟨w1.heap.size, 2, none⟩ = some (.int .i64 f.b) ∧ w2.cell? ⟨w1.heap.size, 3, none⟩ = some (.int .i64 f.c) ∧ w2.cell? ⟨w1.heap.size, 4, none⟩ = some (.string f.d) ∧ w2.cell? ⟨w1.heap.size, 5, none⟩ = some (.slice ra f.rs.length rc) := ⟨FY 0, FY 1, FY 2, FY 3, FY 4, FY 5⟩
  have FX := Lib.hid FY
  have hzw2 := hb.size
  clear hb FY
  go_wp2_with fail
  refine (SE.out _ HRw2.out).mono ?_
  rintro e w3 ⟨rfl, hb⟩
  have HBw3 := Lib.hid (HBw2.out.trans (hb.mono HBw2.out.size))
  have HRw3 := Lib.hid (HRw2.out.below hb)
  have FY := FX.out.below hb (by omega)
  obtain ⟨c0, c1, c2, c3, c4, c5⟩ : w3.cell? ⟨w1.heap.size, 0, none⟩ = some (.int .i64 f.k) ∧ w3.cell? ⟨w1.heap.size, 1, none⟩ = some (.int .i64 f.a) ∧ w3.cell? ⟨w1.heap.size, 2, none⟩ = some (.int .i64 f.b) ∧ w3.cell? ⟨w1.heap.size, 3, none⟩ = some (.int .i64 f.c) ∧ w3.cell? ⟨w1.heap.size, 4, none⟩ = some (.string f.d) ∧ w3.cell? ⟨w1.heap.size, 5, none⟩ = some (.slice ra f.rs.length rc) := ⟨FY 0, FY 1, FY 2, FY 3, FY 4, FY 5⟩
  have FX := Lib.hid FY
  have hzw3 := hb.size
  clear hb FY
  cases hok : fok f
  · rw [hok] at HE
    have he : t.toList.isEmpty = true := HE.out
    go_wp2_with fail
    go_ret
    exact ⟨rfl, HBw3.out⟩
  · rw [hok] at HE
    have he : t.toList.isEmpty = false := HE.out
    have hte : t = fenc f := by rw [← HT.out]; exact fencS_yes hok
    have hts := fenc_size hok
    rw [← hte] at hts
    have HD : Hid (dec4 (t ++ tb) = some (f, t.size)) := Lib.hid (by rw [hte]; exact dec4_enc hok tb)
    have hcat : ¬ 9223372036854775807 < t.size + tb.size := by omega
    have HSZ : Hid ((t ++ tb).size ≤ 4194304) := Lib.hid (by rw [size_app]; omega)
    have cv := HC.out w3 HBw3.out
    clear hte hok
    go_wp2_with fail
    refine (ifdec_any (t ++ tb) _ HSZ.out).mono ?_
    rw [HD.out]
    rintro e w4 (⟨hn, _⟩ | ⟨f', n', ga, gc, hn, rfl, hb, ho⟩)
    · cases hn
    injection hn with hn
    injection hn with hn1 hn2
    subst hn1 hn2
    have HBw4 := Lib.hid (HBw3.out.trans (hb.mono HBw3.out.size))
    have HRw4 := Lib.hid (HRw3.out.below hb)
    have FY := FX.out.below hb (by omega)
    obtain ⟨c0, c1, c2, c3, c4, c5⟩ : w4.cell? ⟨w1.heap.size, 0, none⟩ = some (.int .i64 f.k) ∧ w4.cell? ⟨w1.heap.size, 1, none⟩ = some (.int .i64 f.a) ∧ w4.cell? ⟨w1.heap.size, 2, none⟩ = some (.int .i64 f.b) ∧ w4.cell? ⟨w1.heap.size, 3, none⟩ = some (.int .i64 f.c) ∧ w4.cell? ⟨w1.heap.size, 4, none⟩ = some (.string f.d) ∧ w4.cell? ⟨w1.heap.size, 5, none⟩ = some (.slice ra f.rs.length rc) := ⟨FY 0, FY 1, FY 2, FY 3, FY 4, FY 5⟩
    have hzw4 := hb.size
    have HRgw4 := Lib.hid (Rngs.of_own ho)
    have hlt : w1.heap.size < w4.heap.size := by omega
    clear hb ho FY
    have HSF := Lib.hid (fun W h h' => samefr_any f f (.slice ga f.rs.length gc) (.slice ra f.rs.length rc) W h h' HLL.out.1 HLL.out.1)
    have hfe : frEq f f = true := frEq_iff.2 rfl
    rw [hfe] at HSF
    unfold frV at HSF ⊢
    have BA : Hid (Below w4.heap.size w4 (w4.alloc (.cells #[.int .i64 f.k, .int .i64 f.a, .int .i64 f.b, .int .i64 f.c, .string f.d, .slice ga f.rs.length gc] 25))) := Lib.hid ((Below.refl _ _).alloc (Nat.le_refl _) _)
    go_wp2_with fail
    refine (HSF.out _ (HRgw4.out.below BA.out) (HRw4.out.below BA.out)).mono ?_
    rintro e w5 ⟨rfl, hb⟩
    have HBw5 := Lib.hid (HBw4.out.trans ((BA.out.trans (hb.mono BA.out.size)).mono HBw4.out.size))
    clear hb
    go_wp2_with fail
    go_ret
    exact ⟨rfl, HBw5.out⟩
end Go.Proofs.Ythflokonihegbaa
