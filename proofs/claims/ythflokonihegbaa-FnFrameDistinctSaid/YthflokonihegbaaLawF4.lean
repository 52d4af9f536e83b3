/- The law FrameDistinct: the walk. -/
import Derived.Test.YthflokonihegbaaLawF
namespace Go.Proofs.Ythflokonihegbaa
open Go.RowKit
set_option linter.unusedVariables false
set_option linter.unusedSimpArgs false

set_option maxRecDepth 100000 in
set_option maxHeartbeats 1000000 in
theorem fdist_walk (a : Option Addr) (len cap : Nat) (zs : List Int) (a1 : Option Addr) (len1 cap1 : Nat) (zs1 : List Int) (w : World) (h : IsRow .u8 w a len cap zs) (h1 : IsRow .u8 w a1 len1 cap1 zs1) :
    Calls Try.prog 12 #[.slice a len cap, .slice a1 len1 cap1] w fun e w' => e = .returned (.bool true) ∧ Below w.heap.size w w' := by
  have H := Lib.hid h
  have H1 := Lib.hid h1
  clear h h1
  by_cases hl : 1048576 < len
  · go_enter Try.func12, Try.ntmps12
    go_wp2
    go_ret
    exact ⟨rfl, Below.refl _ _⟩
  by_cases hl1 : 1048576 < len1
  · go_enter Try.func12, Try.ntmps12
    go_wp2
    go_ret
    exact ⟨rfl, Below.refl _ _⟩
  go_enter Try.func12, Try.ntmps12
  go_wp2_with fail
  refine (drawFEnc_any a len cap zs w H.out).mono ?_
  rintro e w1 ⟨f, ra, rc, hf, rfl, hb, ho⟩
  have hll := frB_lens hf
  have IE := Lib.hid (fun W h => ifenc_any f (.slice ra f.rs.length rc) W h hll.1 hll.2)
  have SE := Lib.hid (fun W h => sfenc_any f (.slice ra f.rs.length rc) W h hll.1 hll.2)
  have HRw1 := Lib.hid (Rngs.of_own ho)
  have HBw1 := Lib.hid hb
  have HE := Lib.hid (fencS_empty f)
  have HLL := Lib.hid hll
  clear hb ho hf hll
  unfold frV at IE SE ⊢
  obtain ⟨t, ht⟩ : ∃ t, fencS f = t := ⟨_, rfl⟩
  rw [ht] at IE SE HE
  have HT := Lib.hid ht
  clear ht
  have FX : Hid (Frm (w1.alloc (.cells #[.int .i64 f.k, .int .i64 f.a, .int .i64 f.b, .int .i64 f.c, .string f.d, .slice ra f.rs.length rc] 25)) w1.heap.size [.int .i64 f.k, .int .i64 f.a, .int .i64 f.b, .int .i64 f.c, .string f.d, .slice ra f.rs.length rc]) := Lib.hid (Frm.new w1 25 [.int .i64 f.k, .int .i64 f.a, .int .i64 f.b, .int .i64 f.c, .string f.d, .slice ra f.rs.length rc])
  have HBW1 : Hid (Below w.heap.size w (w1.alloc (.cells #[.int .i64 f.k, .int .i64 f.a, .int .i64 f.b, .int .i64 f.c, .string f.d, .slice ra f.rs.length rc] 25))) := Lib.hid (HBw1.out.alloc HBw1.out.size _)
  have HRW1 : Hid (Rngs (w1.alloc (.cells #[.int .i64 f.k, .int .i64 f.a, .int .i64 f.b, .int .i64 f.c, .string f.d, .slice ra f.rs.length rc] 25)) (.slice ra f.rs.length rc) f.rs) := Lib.hid (HRw1.out.below ((Below.refl _ _).alloc (Nat.le_refl _) _))
  have hsW1 : (w1.alloc (.cells #[.int .i64 f.k, .int .i64 f.a, .int .i64 f.b, .int .i64 f.c, .string f.d, .slice ra f.rs.length rc] 25)).heap.size = w1.heap.size + 1 := by simp
  go_wp2_with fail
  generalize (w1.alloc (.cells #[.int .i64 f.k, .int .i64 f.a, .int .i64 f.b, .int .i64 f.c, .string f.d, .slice ra f.rs.length rc] 25)) = W1 at *
  refine (IE.out _ HRW1.out).mono ?_
  rintro e w2 ⟨rfl, hb⟩
  have HBw2 := Lib.hid (HBW1.out.trans (hb.mono HBW1.out.size))
  have HRw2 := Lib.hid (HRW1.out.below hb)
  have FY := FX.out.below hb (by omega)
  obtain ⟨c0, c1, c2, c3, c4, c5⟩ : w2.cell? ⟨w1.heap.size, 0, none⟩ = some (.int .i64 f.k) ∧ w2.cell? ⟨w1.heap.size, 1, none⟩ = some (.int .i64 f.a) ∧ w2.cell? ⟨w1.heap.size, 2, none⟩ = some (.int .i64 f.b) ∧ w2.cell? ⟨w1.heap.size, 3, none⟩ = some (.int .i64 f.c) ∧ w2.cell? ⟨w1.heap.size, 4, none⟩ = some (.string f.d) ∧ w2.cell? ⟨w1.heap.size, 5, none⟩ = some (.slice ra f.rs.length rc) := ⟨FY 0, FY 1, FY 2, FY 3, FY 4, FY 5⟩
  have FX := Lib.hid FY
  have hzw2 := hb.size
  clear hb FY
  go_wp2_with fail
  refine (SE.out _ HRw2.out).mono ?_
  rintro e w3 ⟨rfl, hb⟩
  have HBw3 := Lib.hid (HBw2.out.trans (hb.mono HBw2.out.size))
  have HRw3 := Lib.hid (HRw2.out.below hb)
  have FY := FX.out.below hb (by omega)
  obtain ⟨c0, c1, c2, c3, c4, c5⟩ : w3.cell? ⟨w1.heap.size, 0, none⟩ = some (.int .i64 f.k) ∧ w3.cell? ⟨w1.heap.size, 1, none⟩ = some (.int .i64 f.a) ∧ w3.cell? ⟨w1.heap.size, 2, none⟩ = some (.int .i64 f.b) ∧ w3.cell? ⟨w1.heap.size, 3, none⟩ = some (.int .i64 f.c) ∧ w3.cell? ⟨w1.heap.size, 4, none⟩ = some (.string f.d) ∧ w3.cell? ⟨w1.heap.size, 5, none⟩ = some (.slice ra f.rs.length rc) := ⟨FY 0, FY 1, FY 2, FY 3, FY 4, FY 5⟩
  have FX := Lib.hid FY
  have hzw3 := hb.size
  clear hb FY
  cases hok : fok f
  · rw [hok] at HE
    have he : t.toList.isEmpty = true := HE.out
    go_wp2_with fail
    go_ret
    exact ⟨rfl, HBw3.out⟩
  · rw [hok] at HE
    have he : t.toList.isEmpty = false := HE.out
    have HTF : Hid (t = fenc f ∧ fok f = true) := Lib.hid ⟨by rw [← HT.out]; exact fencS_yes hok, hok⟩
    clear hok
    go_wp2_with fail
    refine (drawFEnc_any a1 len1 cap1 zs1 w3 (H1.out.below HBw3.out)).mono ?_
    rintro e w4 ⟨g, sa, sc, hfg, rfl, hb, ho⟩
    have hlg := frB_lens hfg
    have IG := Lib.hid (fun W h => ifenc_any g (.slice sa g.rs.length sc) W h hlg.1 hlg.2)
    have HRw4 := Lib.hid (HRw3.out.below hb)
    have FY := FX.out.below hb (by omega)
    have FX := Lib.hid FY
    have HRgw4 := Lib.hid (Rngs.of_own ho)
    have HBw4 := Lib.hid (HBw3.out.trans (hb.mono HBw3.out.size))
    have hzw4 := hb.size
    have HLG := Lib.hid hlg
    clear hb ho hfg hlg FY
    unfold frV at IG ⊢
    obtain ⟨tg, htg⟩ : ∃ tg, fencS g = tg := ⟨_, rfl⟩
    rw [htg] at IG
    have HTG := Lib.hid htg
    clear htg
    have FXg : Hid (Frm (w4.alloc (.cells #[.int .i64 g.k, .int .i64 g.a, .int .i64 g.b, .int .i64 g.c, .string g.d, .slice sa g.rs.length sc] 25)) w4.heap.size [.int .i64 g.k, .int .i64 g.a, .int .i64 g.b, .int .i64 g.c, .string g.d, .slice sa g.rs.length sc]) := Lib.hid (Frm.new w4 25 [.int .i64 g.k, .int .i64 g.a, .int .i64 g.b, .int .i64 g.c, .string g.d, .slice sa g.rs.length sc])
    have HBW4 : Hid (Below w.heap.size w (w4.alloc (.cells #[.int .i64 g.k, .int .i64 g.a, .int .i64 g.b, .int .i64 g.c, .string g.d, .slice sa g.rs.length sc] 25))) := Lib.hid (HBw4.out.alloc HBw4.out.size _)
    have HRgW4 : Hid (Rngs (w4.alloc (.cells #[.int .i64 g.k, .int .i64 g.a, .int .i64 g.b, .int .i64 g.c, .string g.d, .slice sa g.rs.length sc] 25)) (.slice sa g.rs.length sc) g.rs) := Lib.hid (HRgw4.out.below ((Below.refl _ _).alloc (Nat.le_refl _) _))
    have hsW4 : (w4.alloc (.cells #[.int .i64 g.k, .int .i64 g.a, .int .i64 g.b, .int .i64 g.c, .string g.d, .slice sa g.rs.length sc] 25)).heap.size = w4.heap.size + 1 := by simp
    have HRW4 : Hid (Rngs (w4.alloc (.cells #[.int .i64 g.k, .int .i64 g.a, .int .i64 g.b, .int .i64 g.c, .string g.d, .slice sa g.rs.length sc] 25)) (.slice ra f.rs.length rc) f.rs) := Lib.hid (HRw4.out.below ((Below.refl _ _).alloc (Nat.le_refl _) _))
    have FX : Hid (Frm (w4.alloc (.cells #[.int .i64 g.k, .int .i64 g.a, .int .i64 g.b, .int .i64 g.c, .string g.d, .slice sa g.rs.length sc] 25)) w1.heap.size [.int .i64 f.k, .int .i64 f.a, .int .i64 f.b, .int .i64 f.c, .string f.d, .slice ra f.rs.length rc]) := Lib.hid (FX.out.below (B := w4.heap.size) ((Below.refl _ _).alloc (Nat.le_refl _) _) (by omega))
    go_wp2_with fail
    generalize (w4.alloc (.cells #[.int .i64 g.k, .int .i64 g.a, .int .i64 g.b, .int .i64 g.c, .string g.d, .slice sa g.rs.length sc] 25)) = W4 at *
    refine (IG.out _ HRgW4.out).mono ?_
    rintro e w5 ⟨rfl, hb⟩
    have HBw5 := Lib.hid (HBW4.out.trans (hb.mono HBW4.out.size))
    have HRw5 := Lib.hid (HRW4.out.below hb)
    have FY := FX.out.below hb (by omega)
    obtain ⟨c0, c1, c2, c3, c4, c5⟩ : w5.cell? ⟨w1.heap.size, 0, none⟩ = some (.int .i64 f.k) ∧ w5.cell? ⟨w1.heap.size, 1, none⟩ = some (.int .i64 f.a) ∧ w5.cell? ⟨w1.heap.size, 2, none⟩ = some (.int .i64 f.b) ∧ w5.cell? ⟨w1.heap.size, 3, none⟩ = some (.int .i64 f.c) ∧ w5.cell? ⟨w1.heap.size, 4, none⟩ = some (.string f.d) ∧ w5.cell? ⟨w1.heap.size, 5, none⟩ = some (.slice ra f.rs.length rc) := ⟨FY 0, FY 1, FY 2, FY 3, FY 4, FY 5⟩
    have FX := Lib.hid FY
    have HRgw5 := Lib.hid (HRgW4.out.below hb)
    have FY := FXg.out.below hb (by omega)
    obtain ⟨c0g, c1g, c2g, c3g, c4g, c5g⟩ : w5.cell? ⟨w4.heap.size, 0, none⟩ = some (.int .i64 g.k) ∧ w5.cell? ⟨w4.heap.size, 1, none⟩ = some (.int .i64 g.a) ∧ w5.cell? ⟨w4.heap.size, 2, none⟩ = some (.int .i64 g.b) ∧ w5.cell? ⟨w4.heap.size, 3, none⟩ = some (.int .i64 g.c) ∧ w5.cell? ⟨w4.heap.size, 4, none⟩ = some (.string g.d) ∧ w5.cell? ⟨w4.heap.size, 5, none⟩ = some (.slice sa g.rs.length sc) := ⟨FY 0, FY 1, FY 2, FY 3, FY 4, FY 5⟩
    have FXg := Lib.hid FY
    have hzw5 := hb.size
    clear hb FY
    have HSF := Lib.hid (fun W h h' => samefr_any f g (.slice ra f.rs.length rc) (.slice sa g.rs.length sc) W h h' HLL.out.1 HLG.out.1)
    unfold frV at HSF
    by_cases hfg : f = g
    · have hq : frEq f g = true := frEq_iff.2 hfg
      rw [hq] at HSF
      have hte : tg.toList = t.toList := by rw [← HTG.out, ← HT.out, hfg]
      have hteb : (tg.toList == t.toList) = true := beq_iff_eq.2 hte
      clear hq hfg
      go_wp2_with fail
      refine (HSF.out _ HRw5.out HRgw5.out).mono ?_
      rintro e w6 ⟨rfl, hb⟩
      have HBw6 := Lib.hid (HBw5.out.trans (hb.mono HBw5.out.size))
      clear hb
      go_wp2_with fail
      go_ret
      exact ⟨rfl, HBw6.out⟩
    · have hq : frEq f g = false := by cases h9 : frEq f g; rfl; exact absurd (frEq_iff.1 h9) hfg
      rw [hq] at HSF
      have hte : ¬ tg.toList = t.toList := by
        intro h9
        have h8 := toList_inj h9
        cases hg : fok g
        · have e1 := HTG.out
          rw [fencS_no hg] at e1
          have e2 := fenc_size HTF.out.2
          rw [← HTF.out.1, ← h8, ← e1] at e2
          exact absurd e2.1 (by decide)
        · have e1 := HTG.out
          rw [fencS_yes hg] at e1
          have e3 : fenc f ++ ⟨#[]⟩ = fenc g ++ ⟨#[]⟩ := by rw [← HTF.out.1, ← h8, ← e1]
          exact hfg (fenc_inj HTF.out.2 hg _ _ e3).1
      have hteb : (tg.toList == t.toList) = false := beq_eq_false_iff_ne.2 hte
      clear hq hfg
      go_wp2_with fail
      refine (HSF.out _ HRw5.out HRgw5.out).mono ?_
      rintro e w6 ⟨rfl, hb⟩
      have HBw6 := Lib.hid (HBw5.out.trans (hb.mono HBw5.out.size))
      clear hb
      go_wp2_with fail
      go_ret
      exact ⟨rfl, HBw6.out⟩
end Go.Proofs.Ythflokonihegbaa
