/- The law FrameOneWay: the walk. -/
import Derived.Test.YthflokonihegbaaLawF
import Derived.Test.YthflokonihegbaaDrText
namespace Go.Proofs.Ythflokonihegbaa
open Go.RowKit
set_option linter.unusedVariables false
set_option linter.unusedSimpArgs false

set_option maxRecDepth 100000 in
set_option maxHeartbeats 1000000 in
theorem foneway_walk (a : Option Addr) (len cap : Nat) (zs : List Int) (w : World) (h : IsRow .u8 w a len cap zs) :
    Calls Try.prog 4 #[.slice a len cap] w fun e w' => e = .returned (.bool true) ∧ Below w.heap.size w w' := by
  have H := Lib.hid h
  clear h
  by_cases hl : 1048576 < len
  · go_enter Try.func4, Try.ntmps4
    go_wp2
    go_ret
    exact ⟨rfl, Below.refl _ _⟩
  go_enter Try.func4, Try.ntmps4
  go_wp2_with fail
  refine (drawTDec_any a len cap zs w H.out).mono ?_
  rintro e w1 ⟨s, hs, rfl, hb⟩
  have HBw1 := Lib.hid hb
  have HSZ : Hid (s.size ≤ 4194304) := Lib.hid (by omega)
  clear hb
  cases hd : dec4 s with
  | none =>
    have HD := Lib.hid hd
    have HLL : Hid ((⟨0, 0, 0, 0, ⟨#[]⟩, []⟩ : Fr).rs.length ≤ 1048576 ∧ (⟨0, 0, 0, 0, ⟨#[]⟩, []⟩ : Fr).d.size ≤ 2097152) := Lib.hid ⟨by show 0 ≤ 1048576; omega, by show 0 ≤ 2097152; omega⟩
    clear hd
    go_wp2_with fail
    refine (ifdec_any s _ HSZ.out).mono ?_
    rw [HD.out]
    rintro e w2 (⟨_, oa, oc, rfl, hb, ho⟩ | ⟨f', n', oa, oc, hn, _⟩)
    rotate_left
    · cases hn
    have HRo := Lib.hid (Rngs.of_own ho)
    have HBw2 := Lib.hid (HBw1.out.trans (hb.mono HBw1.out.size))
    clear hb ho
    unfold frV
    have FXo : Hid (Frm (w2.alloc (.cells #[.int .i64 0, .int .i64 0, .int .i64 0, .int .i64 0, .string ⟨#[]⟩, .slice oa 0 oc] 25)) w2.heap.size [.int .i64 0, .int .i64 0, .int .i64 0, .int .i64 0, .string ⟨#[]⟩, .slice oa 0 oc]) := Lib.hid (Frm.new w2 25 [.int .i64 0, .int .i64 0, .int .i64 0, .int .i64 0, .string ⟨#[]⟩, .slice oa 0 oc])
    have HBW2 : Hid (Below w.heap.size w (w2.alloc (.cells #[.int .i64 0, .int .i64 0, .int .i64 0, .int .i64 0, .string ⟨#[]⟩, .slice oa 0 oc] 25))) := Lib.hid (HBw2.out.alloc HBw2.out.size _)
    have HRo : Hid (Rngs (w2.alloc (.cells #[.int .i64 0, .int .i64 0, .int .i64 0, .int .i64 0, .string ⟨#[]⟩, .slice oa 0 oc] 25)) (.slice oa 0 oc) []) := Lib.hid (HRo.out.below ((Below.refl _ _).alloc (Nat.le_refl _) _))
    have hsW2 : (w2.alloc (.cells #[.int .i64 0, .int .i64 0, .int .i64 0, .int .i64 0, .string ⟨#[]⟩, .slice oa 0 oc] 25)).heap.size = w2.heap.size + 1 := by simp
    go_wp2_with fail
    generalize (w2.alloc (.cells #[.int .i64 0, .int .i64 0, .int .i64 0, .int .i64 0, .string ⟨#[]⟩, .slice oa 0 oc] 25)) = W2 at *
    refine (sfdec_any s _ HSZ.out).mono ?_
    rw [HD.out]
    rintro e w3 (⟨_, ta, tc, rfl, hb, ho⟩ | ⟨f', n', ta, tc, hn, _⟩)
    rotate_left
    · cases hn
    have HRt := Lib.hid (Rngs.of_own ho)
    have HBw3 := Lib.hid (HBW2.out.trans (hb.mono HBW2.out.size))
    have hzw3 := hb.size
    have FY := FXo.out.below hb (by omega)
    have HRo := Lib.hid (HRo.out.below hb)
    have FXo := Lib.hid FY
    clear FY
    clear hb ho
    unfold frV
    have FO3 := FXo
    have FXt : Hid (Frm (w3.alloc (.cells #[.int .i64 0, .int .i64 0, .int .i64 0, .int .i64 0, .string ⟨#[]⟩, .slice ta 0 tc] 25)) w3.heap.size [.int .i64 0, .int .i64 0, .int .i64 0, .int .i64 0, .string ⟨#[]⟩, .slice ta 0 tc]) := Lib.hid (Frm.new w3 25 [.int .i64 0, .int .i64 0, .int .i64 0, .int .i64 0, .string ⟨#[]⟩, .slice ta 0 tc])
    have HBW3 : Hid (Below w.heap.size w (w3.alloc (.cells #[.int .i64 0, .int .i64 0, .int .i64 0, .int .i64 0, .string ⟨#[]⟩, .slice ta 0 tc] 25))) := Lib.hid (HBw3.out.alloc HBw3.out.size _)
    have HRt : Hid (Rngs (w3.alloc (.cells #[.int .i64 0, .int .i64 0, .int .i64 0, .int .i64 0, .string ⟨#[]⟩, .slice ta 0 tc] 25)) (.slice ta 0 tc) []) := Lib.hid (HRt.out.below ((Below.refl _ _).alloc (Nat.le_refl _) _))
    have hsW3 : (w3.alloc (.cells #[.int .i64 0, .int .i64 0, .int .i64 0, .int .i64 0, .string ⟨#[]⟩, .slice ta 0 tc] 25)).heap.size = w3.heap.size + 1 := by simp
    have FXo : Hid (Frm (w3.alloc (.cells #[.int .i64 0, .int .i64 0, .int .i64 0, .int .i64 0, .string ⟨#[]⟩, .slice ta 0 tc] 25)) w2.heap.size [.int .i64 0, .int .i64 0, .int .i64 0, .int .i64 0, .string ⟨#[]⟩, .slice oa 0 oc]) := Lib.hid (FXo.out.below (B := w3.heap.size) ((Below.refl _ _).alloc (Nat.le_refl _) _) (by omega))
    have HRo : Hid (Rngs (w3.alloc (.cells #[.int .i64 0, .int .i64 0, .int .i64 0, .int .i64 0, .string ⟨#[]⟩, .slice ta 0 tc] 25)) (.slice oa 0 oc) []) := Lib.hid (HRo.out.below ((Below.refl _ _).alloc (Nat.le_refl _) _))
    have HSF := Lib.hid (fun W h h' => samefr_any (⟨0, 0, 0, 0, ⟨#[]⟩, []⟩ : Fr) (⟨0, 0, 0, 0, ⟨#[]⟩, []⟩ : Fr) (.slice oa 0 oc) (.slice ta 0 tc) W h h' HLL.out.1 HLL.out.1)
    have hfe : frEq (⟨0, 0, 0, 0, ⟨#[]⟩, []⟩ : Fr) (⟨0, 0, 0, 0, ⟨#[]⟩, []⟩ : Fr) = true := frEq_iff.2 rfl
    rw [hfe] at HSF
    unfold frV at HSF
    have hne1 : ¬ w2.heap.size = w3.heap.size := by omega
    have hlt1 : w2.heap.size < w3.heap.size := by omega
    obtain ⟨c0o, c1o, c2o, c3o, c4o, c5o⟩ : w3.cell? ⟨w2.heap.size, 0, none⟩ = some (.int .i64 0) ∧ w3.cell? ⟨w2.heap.size, 1, none⟩ = some (.int .i64 0) ∧ w3.cell? ⟨w2.heap.size, 2, none⟩ = some (.int .i64 0) ∧ w3.cell? ⟨w2.heap.size, 3, none⟩ = some (.int .i64 0) ∧ w3.cell? ⟨w2.heap.size, 4, none⟩ = some (.string ⟨#[]⟩) ∧ w3.cell? ⟨w2.heap.size, 5, none⟩ = some (.slice oa 0 oc) := ⟨FO3.out 0, FO3.out 1, FO3.out 2, FO3.out 3, FO3.out 4, FO3.out 5⟩
    go_wp2_with fail
    generalize (w3.alloc (.cells #[.int .i64 0, .int .i64 0, .int .i64 0, .int .i64 0, .string ⟨#[]⟩, .slice ta 0 tc] 25)) = W3 at *
    refine (HSF.out _ HRo.out HRt.out).mono ?_
    rintro e w4 ⟨rfl, hb⟩
    have HBw4 := Lib.hid (HBW3.out.trans (hb.mono HBW3.out.size))
    have hzw4 := hb.size
    have FY := FXo.out.below hb (by omega)
    have HRo := Lib.hid (HRo.out.below hb)
    obtain ⟨c0o, c1o, c2o, c3o, c4o, c5o⟩ : w4.cell? ⟨w2.heap.size, 0, none⟩ = some (.int .i64 0) ∧ w4.cell? ⟨w2.heap.size, 1, none⟩ = some (.int .i64 0) ∧ w4.cell? ⟨w2.heap.size, 2, none⟩ = some (.int .i64 0) ∧ w4.cell? ⟨w2.heap.size, 3, none⟩ = some (.int .i64 0) ∧ w4.cell? ⟨w2.heap.size, 4, none⟩ = some (.string ⟨#[]⟩) ∧ w4.cell? ⟨w2.heap.size, 5, none⟩ = some (.slice oa 0 oc) := ⟨FY 0, FY 1, FY 2, FY 3, FY 4, FY 5⟩
    have FXo := Lib.hid FY
    clear FY
    have FY := FXt.out.below hb (by omega)
    have HRt := Lib.hid (HRt.out.below hb)
    obtain ⟨c0t, c1t, c2t, c3t, c4t, c5t⟩ : w4.cell? ⟨w3.heap.size, 0, none⟩ = some (.int .i64 0) ∧ w4.cell? ⟨w3.heap.size, 1, none⟩ = some (.int .i64 0) ∧ w4.cell? ⟨w3.heap.size, 2, none⟩ = some (.int .i64 0) ∧ w4.cell? ⟨w3.heap.size, 3, none⟩ = some (.int .i64 0) ∧ w4.cell? ⟨w3.heap.size, 4, none⟩ = some (.string ⟨#[]⟩) ∧ w4.cell? ⟨w3.heap.size, 5, none⟩ = some (.slice ta 0 tc) := ⟨FY 0, FY 1, FY 2, FY 3, FY 4, FY 5⟩
    have FXt := Lib.hid FY
    clear FY
    clear hb
    go_wp2_with fail
    refine (HSF.out _ HRo.out HRt.out).mono ?_
    rintro e w5 ⟨rfl, hb⟩
    have HBw5 := Lib.hid (HBw4.out.trans (hb.mono HBw4.out.size))
    clear hb
    go_wp2_with fail
    go_ret
    exact ⟨rfl, HBw5.out⟩
  | some p =>
    obtain ⟨f, n⟩ := p
    have HD := Lib.hid hd
    obtain ⟨hok, hsp, hnn⟩ := dec4_some hd
    have HOK := Lib.hid hok
    have HLL : Hid (f.rs.length ≤ 1048576 ∧ f.d.size ≤ 2097152) := Lib.hid (by have := fok_bnd hok; omega)
    have hns : n ≤ s.size := by have := congrArg ByteArray.size hsp; rw [size_app] at this; omega
    have hns' : (n : Int) ≤ (s.size : Int) := by omega
    have hn0 : (0 : Int) ≤ (n : Int) := by omega
    have HCL : Hid (s.extract 0 n = fenc f) := Lib.hid (by
      apply bytes_ext
      rw [Lib.extract_data]
      have e1 := congrArg (fun x : ByteArray => x.data.toList) hsp
      have e2 : (fenc f ++ cut s n).data.toList = (fenc f).data.toList ++ (cut s n).data.toList := by simp
      have e3 := size_of_list (fenc f)
      simp only [e2] at e1
      rw [e1, List.drop_zero, List.take_left' (by omega)])
    have HC : Hid ((fenc f).toList = (s.extract 0 n).toList) := Lib.hid (by rw [HCL.out])
    clear hd hok hsp hnn
    go_wp2_with fail
    refine (ifdec_any s _ HSZ.out).mono ?_
    rw [HD.out]
    rintro e w2 (⟨hn, _⟩ | ⟨f', n', oa, oc, hn, rfl, hb, ho⟩)
    · cases hn
    injection hn with hn
    injection hn with hn1 hn2
    subst hn1 hn2
    have HRo := Lib.hid (Rngs.of_own ho)
    have HBw2 := Lib.hid (HBw1.out.trans (hb.mono HBw1.out.size))
    clear hb ho
    unfold frV
    have FXo : Hid (Frm (w2.alloc (.cells #[.int .i64 f.k, .int .i64 f.a, .int .i64 f.b, .int .i64 f.c, .string f.d, .slice oa f.rs.length oc] 25)) w2.heap.size [.int .i64 f.k, .int .i64 f.a, .int .i64 f.b, .int .i64 f.c, .string f.d, .slice oa f.rs.length oc]) := Lib.hid (Frm.new w2 25 [.int .i64 f.k, .int .i64 f.a, .int .i64 f.b, .int .i64 f.c, .string f.d, .slice oa f.rs.length oc])
    have HBW2 : Hid (Below w.heap.size w (w2.alloc (.cells #[.int .i64 f.k, .int .i64 f.a, .int .i64 f.b, .int .i64 f.c, .string f.d, .slice oa f.rs.length oc] 25))) := Lib.hid (HBw2.out.alloc HBw2.out.size _)
    have HRo : Hid (Rngs (w2.alloc (.cells #[.int .i64 f.k, .int .i64 f.a, .int .i64 f.b, .int .i64 f.c, .string f.d, .slice oa f.rs.length oc] 25)) (.slice oa f.rs.length oc) f.rs) := Lib.hid (HRo.out.below ((Below.refl _ _).alloc (Nat.le_refl _) _))
    have hsW2 : (w2.alloc (.cells #[.int .i64 f.k, .int .i64 f.a, .int .i64 f.b, .int .i64 f.c, .string f.d, .slice oa f.rs.length oc] 25)).heap.size = w2.heap.size + 1 := by simp
    go_wp2_with fail
    generalize (w2.alloc (.cells #[.int .i64 f.k, .int .i64 f.a, .int .i64 f.b, .int .i64 f.c, .string f.d, .slice oa f.rs.length oc] 25)) = W2 at *
    refine (sfdec_any s _ HSZ.out).mono ?_
    rw [HD.out]
    rintro e w3 (⟨hn, _⟩ | ⟨f', n', ta, tc, hn, rfl, hb, ho⟩)
    · cases hn
    injection hn with hn
    injection hn with hn1 hn2
    subst hn1 hn2
    have HRt := Lib.hid (Rngs.of_own ho)
    have HBw3 := Lib.hid (HBW2.out.trans (hb.mono HBW2.out.size))
    have hzw3 := hb.size
    have FY := FXo.out.below hb (by omega)
    have HRo := Lib.hid (HRo.out.below hb)
    have FXo := Lib.hid FY
    clear FY
    clear hb ho
    unfold frV
    have FO3 := FXo
    have FXt : Hid (Frm (w3.alloc (.cells #[.int .i64 f.k, .int .i64 f.a, .int .i64 f.b, .int .i64 f.c, .string f.d, .slice ta f.rs.length tc] 25)) w3.heap.size [.int .i64 f.k, .int .i64 f.a, .int .i64 f.b, .int .i64 f.c, .string f.d, .slice ta f.rs.length tc]) := Lib.hid (Frm.new w3 25 [.int .i64 f.k, .int .i64 f.a, .int .i64 f.b, .int .i64 f.c, .string f.d, .slice ta f.rs.length tc])
    have HBW3 : Hid (Below w.heap.size w (w3.alloc (.cells #[.int .i64 f.k, .int .i64 f.a, .int .i64 f.b, .int .i64 f.c, .string f.d, .slice ta f.rs.length tc] 25))) := Lib.hid (HBw3.out.alloc HBw3.out.size _)
    have HRt : Hid (Rngs (w3.alloc (.cells #[.int .i64 f.k, .int .i64 f.a, .int .i64 f.b, .int .i64 f.c, .string f.d, .slice ta f.rs.length tc] 25)) (.slice ta f.rs.length tc) f.rs) := Lib.hid (HRt.out.below ((Below.refl _ _).alloc (Nat.le_refl _) _))
    have hsW3 : (w3.alloc (.cells #[.int .i64 f.k, .int .i64 f.a, .int .i64 f.b, .int .i64 f.c, .string f.d, .slice ta f.rs.length tc] 25)).heap.size = w3.heap.size + 1 := by simp
    have FXo : Hid (Frm (w3.alloc (.cells #[.int .i64 f.k, .int .i64 f.a, .int .i64 f.b, .int .i64 f.c, .string f.d, .slice ta f.rs.length tc] 25)) w2.heap.size [.int .i64 f.k, .int .i64 f.a, .int .i64 f.b, .int .i64 f.c, .string f.d, .slice oa f.rs.length oc]) := Lib.hid (FXo.out.below (B := w3.heap.size) ((Below.refl _ _).alloc (Nat.le_refl _) _) (by omega))
    have HRo : Hid (Rngs (w3.alloc (.cells #[.int .i64 f.k, .int .i64 f.a, .int .i64 f.b, .int .i64 f.c, .string f.d, .slice ta f.rs.length tc] 25)) (.slice oa f.rs.length oc) f.rs) := Lib.hid (HRo.out.below ((Below.refl _ _).alloc (Nat.le_refl _) _))
    have HSF := Lib.hid (fun W h h' => samefr_any f f (.slice oa f.rs.length oc) (.slice ta f.rs.length tc) W h h' HLL.out.1 HLL.out.1)
    have hfe : frEq f f = true := frEq_iff.2 rfl
    rw [hfe] at HSF
    unfold frV at HSF
    have hne1 : ¬ w2.heap.size = w3.heap.size := by omega
    have hlt1 : w2.heap.size < w3.heap.size := by omega
    obtain ⟨c0o, c1o, c2o, c3o, c4o, c5o⟩ : w3.cell? ⟨w2.heap.size, 0, none⟩ = some (.int .i64 f.k) ∧ w3.cell? ⟨w2.heap.size, 1, none⟩ = some (.int .i64 f.a) ∧ w3.cell? ⟨w2.heap.size, 2, none⟩ = some (.int .i64 f.b) ∧ w3.cell? ⟨w2.heap.size, 3, none⟩ = some (.int .i64 f.c) ∧ w3.cell? ⟨w2.heap.size, 4, none⟩ = some (.string f.d) ∧ w3.cell? ⟨w2.heap.size, 5, none⟩ = some (.slice oa f.rs.length oc) := ⟨FO3.out 0, FO3.out 1, FO3.out 2, FO3.out 3, FO3.out 4, FO3.out 5⟩
    go_wp2_with fail
    generalize (w3.alloc (.cells #[.int .i64 f.k, .int .i64 f.a, .int .i64 f.b, .int .i64 f.c, .string f.d, .slice ta f.rs.length tc] 25)) = W3 at *
    refine (HSF.out _ HRo.out HRt.out).mono ?_
    rintro e w4 ⟨rfl, hb⟩
    have HBw4 := Lib.hid (HBW3.out.trans (hb.mono HBW3.out.size))
    have hzw4 := hb.size
    have FY := FXo.out.below hb (by omega)
    have HRo := Lib.hid (HRo.out.below hb)
    obtain ⟨c0o, c1o, c2o, c3o, c4o, c5o⟩ : w4.cell? ⟨w2.heap.size, 0, none⟩ = some (.int .i64 f.k) ∧ w4.cell? ⟨w2.heap.size, 1, none⟩ = some (.int .i64 f.a) ∧ w4.cell? ⟨w2.heap.size, 2, none⟩ = some (.int .i64 f.b) ∧ w4.cell? ⟨w2.heap.size, 3, none⟩ = some (.int .i64 f.c) ∧ w4.cell? ⟨w2.heap.size, 4, none⟩ = some (.string f.d) ∧ w4.cell? ⟨w2.heap.size, 5, none⟩ = some (.slice oa f.rs.length oc) := ⟨FY 0, FY 1, FY 2, FY 3, FY 4, FY 5⟩
    have FXo := Lib.hid FY
    clear FY
    have FY := FXt.out.below hb (by omega)
    have HRt := Lib.hid (HRt.out.below hb)
    obtain ⟨c0t, c1t, c2t, c3t, c4t, c5t⟩ : w4.cell? ⟨w3.heap.size, 0, none⟩ = some (.int .i64 f.k) ∧ w4.cell? ⟨w3.heap.size, 1, none⟩ = some (.int .i64 f.a) ∧ w4.cell? ⟨w3.heap.size, 2, none⟩ = some (.int .i64 f.b) ∧ w4.cell? ⟨w3.heap.size, 3, none⟩ = some (.int .i64 f.c) ∧ w4.cell? ⟨w3.heap.size, 4, none⟩ = some (.string f.d) ∧ w4.cell? ⟨w3.heap.size, 5, none⟩ = some (.slice ta f.rs.length tc) := ⟨FY 0, FY 1, FY 2, FY 3, FY 4, FY 5⟩
    have FXt := Lib.hid FY
    clear FY
    clear hb
    have IV := Lib.hid (fun W h => ifok_any f (.slice oa f.rs.length oc) W h HLL.out.1 HLL.out.2)
    have IE := Lib.hid (fun W h => ifenc_any f (.slice oa f.rs.length oc) W h HLL.out.1 HLL.out.2)
    rw [HOK.out] at IV
    rw [fencS_yes HOK.out] at IE
    unfold frV at IV IE
    have q60 := (show w4.cell? ⟨w2.heap.size, 0, none⟩ = some (.int .i64 f.k) ∧ w4.cell? ⟨w2.heap.size, 1, none⟩ = some (.int .i64 f.a) ∧ w4.cell? ⟨w2.heap.size, 2, none⟩ = some (.int .i64 f.b) ∧ w4.cell? ⟨w2.heap.size, 3, none⟩ = some (.int .i64 f.c) ∧ w4.cell? ⟨w2.heap.size, 4, none⟩ = some (.string f.d) ∧ w4.cell? ⟨w2.heap.size, 5, none⟩ = some (.slice oa f.rs.length oc) from ⟨c0o, c1o, c2o, c3o, c4o, c5o⟩)
    have HFO := FXo
    go_wp2_with fail
    go_region_held3 (fun w' => w'.cell? ⟨w2.heap.size, 0, none⟩ = some (.int .i64 f.k) ∧ w'.cell? ⟨w2.heap.size, 1, none⟩ = some (.int .i64 f.a) ∧ w'.cell? ⟨w2.heap.size, 2, none⟩ = some (.int .i64 f.b) ∧ w'.cell? ⟨w2.heap.size, 3, none⟩ = some (.int .i64 f.c) ∧ w'.cell? ⟨w2.heap.size, 4, none⟩ = some (.string f.d) ∧ w'.cell? ⟨w2.heap.size, 5, none⟩ = some (.slice oa f.rs.length oc)) (first | assumption | exact q60 | exact kS5 | exact kS6)
      (first
        | (go_at_call 22; refine (IV.out _ (by first | exact HRo.out | exact HRo.out.below (Below.refl _ _).drew | exact (HRo.out.below (Below.refl _ _).drew).below (Below.refl _ _).drew)).mono ?_; rintro e w5 ⟨rfl, hb5⟩; have hb5' : Below w4.heap.size w4 w5 := (by first | exact hb5 | exact (Below.refl _ _).drew.trans hb5 | exact (Below.refl _ _).drew.drew.trans hb5); have kS5 := (show w5.cell? ⟨w2.heap.size, 0, none⟩ = some (.int .i64 f.k) ∧ w5.cell? ⟨w2.heap.size, 1, none⟩ = some (.int .i64 f.a) ∧ w5.cell? ⟨w2.heap.size, 2, none⟩ = some (.int .i64 f.b) ∧ w5.cell? ⟨w2.heap.size, 3, none⟩ = some (.int .i64 f.c) ∧ w5.cell? ⟨w2.heap.size, 4, none⟩ = some (.string f.d) ∧ w5.cell? ⟨w2.heap.size, 5, none⟩ = some (.slice oa f.rs.length oc) from ⟨((HFO.out.below hb5' (by omega)) 0), ((HFO.out.below hb5' (by omega)) 1), ((HFO.out.below hb5' (by omega)) 2), ((HFO.out.below hb5' (by omega)) 3), ((HFO.out.below hb5' (by omega)) 4), ((HFO.out.below hb5' (by omega)) 5)⟩); have HRo5 := Lib.hid (HRo.out.below hb5'))
        | (go_at_call 16; refine (IE.out _ (by first | exact HRo5.out | exact HRo5.out.below (Below.refl _ _).drew | exact (HRo5.out.below (Below.refl _ _).drew).below (Below.refl _ _).drew)).mono ?_; rintro e w6 ⟨rfl, hb6⟩; have hb6' : Below w5.heap.size w5 w6 := (by first | exact hb6 | exact (Below.refl _ _).drew.trans hb6 | exact (Below.refl _ _).drew.drew.trans hb6); have kS6 := (show w6.cell? ⟨w2.heap.size, 0, none⟩ = some (.int .i64 f.k) ∧ w6.cell? ⟨w2.heap.size, 1, none⟩ = some (.int .i64 f.a) ∧ w6.cell? ⟨w2.heap.size, 2, none⟩ = some (.int .i64 f.b) ∧ w6.cell? ⟨w2.heap.size, 3, none⟩ = some (.int .i64 f.c) ∧ w6.cell? ⟨w2.heap.size, 4, none⟩ = some (.string f.d) ∧ w6.cell? ⟨w2.heap.size, 5, none⟩ = some (.slice oa f.rs.length oc) from ⟨(((HFO.out.below hb5' (by omega)).below hb6' (by have := hb5'.size; omega)) 0), (((HFO.out.below hb5' (by omega)).below hb6' (by have := hb5'.size; omega)) 1), (((HFO.out.below hb5' (by omega)).below hb6' (by have := hb5'.size; omega)) 2), (((HFO.out.below hb5' (by omega)).below hb6' (by have := hb5'.size; omega)) 3), (((HFO.out.below hb5' (by omega)).below hb6' (by have := hb5'.size; omega)) 4), (((HFO.out.below hb5' (by omega)).below hb6' (by have := hb5'.size; omega)) 5)⟩)))
    have HBw6 := Lib.hid ((HBw4.out.trans (hb5'.mono HBw4.out.size)).trans (hb6'.mono (by have := hb5'.size; have := HBw4.out.size; omega)))
    have HCB := HC.out
    go_wp2_with fail
    go_ret
    exact ⟨by rw [HCL.out]; simp, HBw6.out⟩
end Go.Proofs.Ythflokonihegbaa
