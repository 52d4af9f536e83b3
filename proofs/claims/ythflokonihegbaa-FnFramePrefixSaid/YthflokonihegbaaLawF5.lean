/- The law FramePrefix: the walk. -/
import Derived.Test.YthflokonihegbaaLawF
namespace Go.Proofs.Ythflokonihegbaa
open Go.RowKit
set_option linter.unusedVariables false
set_option linter.unusedSimpArgs false

theorem fencS_size (f : Fr) : (fencS f).size ≤ 160 := by
  cases hq : fok f
  · rw [fencS_no hq]; show 0 ≤ 160; omega
  · rw [fencS_yes hq]; exact (fenc_size hq).2
/-- No part of an encoding is one. -/
theorem prefix_no (f : Fr) (i : Nat) (hi : i < (fencS f).size) : dec4 ((fencS f).extract 0 i) = none := by
  cases hq : fok f
  · rw [fencS_no hq] at hi; exact absurd hi (Nat.not_lt_zero _)
  · rw [fencS_yes hq] at hi ⊢
    cases hd : dec4 ((fenc f).extract 0 i) with
    | none => rfl
    | some p =>
      obtain ⟨g, n⟩ := p
      obtain ⟨h1, h2, h3⟩ := dec4_some hd
      obtain ⟨s1, s2⟩ := split_at (fenc f) i (by omega)
      have e : fenc f ++ ⟨#[]⟩ = fenc g ++ (cut ((fenc f).extract 0 i) n ++ cut (fenc f) i) := by
        rw [app_nil, ← app_assoc', ← h2]; exact s1
      obtain ⟨e1, _⟩ := fenc_inj hq h1 _ _ e
      have hz := congrArg ByteArray.size h2
      rw [size_app, s2, ← e1] at hz
      omega

set_option maxRecDepth 100000 in
set_option maxHeartbeats 1000000 in
theorem fprefix_walk (a : Option Addr) (len cap : Nat) (zs : List Int) (w : World) (h : IsRow .u8 w a len cap zs) :
    Calls Try.prog 5 #[.slice a len cap] w fun e w' => e = .returned (.bool true) ∧ Below w.heap.size w w' := by
  have H := Lib.hid h
  clear h
  by_cases hl : 1048576 < len
  · go_enter Try.func5, Try.ntmps5
    go_wp2
    go_ret
    exact ⟨rfl, Below.refl _ _⟩
  go_enter Try.func5, Try.ntmps5
  go_wp2_with fail
  refine (drawFEnc_any a len cap zs w H.out).mono ?_
  rintro e w1 ⟨f, ra, rc, hf, rfl, hb, ho⟩
  have hll := frB_lens hf
  have IE := Lib.hid (fun W h => ifenc_any f (.slice ra f.rs.length rc) W h hll.1 hll.2)
  have SE := Lib.hid (fun W h => sfenc_any f (.slice ra f.rs.length rc) W h hll.1 hll.2)
  have HRw1 := Lib.hid (Rngs.of_own ho)
  have HBw1 := Lib.hid hb
  have HPX := Lib.hid (prefix_no f)
  have hts : (fencS f).size ≤ 160 := fencS_size f
  clear hb ho hf hll
  unfold frV at IE SE ⊢
  generalize fencS f = t at *
  have FX : Hid (Frm (w1.alloc (.cells #[.int .i64 f.k, .int .i64 f.a, .int .i64 f.b, .int .i64 f.c, .string f.d, .slice ra f.rs.length rc] 25)) w1.heap.size [.int .i64 f.k, .int .i64 f.a, .int .i64 f.b, .int .i64 f.c, .string f.d, .slice ra f.rs.length rc]) := Lib.hid (Frm.new w1 25 [.int .i64 f.k, .int .i64 f.a, .int .i64 f.b, .int .i64 f.c, .string f.d, .slice ra f.rs.length rc])
  have HBW1 : Hid (Below w.heap.size w (w1.alloc (.cells #[.int .i64 f.k, .int .i64 f.a, .int .i64 f.b, .int .i64 f.c, .string f.d, .slice ra f.rs.length rc] 25))) := Lib.hid (HBw1.out.alloc HBw1.out.size _)
  have HRW1 : Hid (Rngs (w1.alloc (.cells #[.int .i64 f.k, .int .i64 f.a, .int .i64 f.b, .int .i64 f.c, .string f.d, .slice ra f.rs.length rc] 25)) (.slice ra f.rs.length rc) f.rs) := Lib.hid (HRw1.out.below ((Below.refl _ _).alloc (Nat.le_refl _) _))
  have hsW1 : (w1.alloc (.cells #[.int .i64 f.k, .int .i64 f.a, .int .i64 f.b, .int .i64 f.c, .string f.d, .slice ra f.rs.length rc] 25)).heap.size = w1.heap.size + 1 := by simp
  go_wp2_with fail
  generalize (w1.alloc (.cells #[.int .i64 f.k, .int .i64 f.a, .int .i64 f.b, .int .i64 f.c, .string f.d, .slice ra f.rs.length rc] 25)) = W1 at *
  refine (IE.out _ HRW1.out).mono ?_
  rintro e w2 ⟨rfl, hb⟩
  have HBw2 := Lib.hid (HBW1.out.trans (hb.mono HBW1.out.size))
  have HRw2 := Lib.hid (HRW1.out.below hb)
  have FY := FX.out.below hb (by omega)
  obtain ⟨c0, c1, c2, c3, c4, c5⟩ : w2.cell? ⟨w1.heap.size, 0, none⟩ = some (.int .i64 f.k) ∧ w2.cell? ⟨w1.heap.size, 1, none⟩ = some (.int .i64 f.a) ∧ w2.cell? ⟨w1.heap.size, 2, none⟩ = some (.int .i64 f.b) ∧ w2.cell? ⟨w1.heap.size, 3, none⟩ = some (.int .i64 f.c) ∧ w2.cell? ⟨w1.heap.size, 4, none⟩ = some (.string f.d) ∧ w2.cell? ⟨w1.heap.size, 5, none⟩ = some (.slice ra f.rs.length rc) := ⟨FY 0, FY 1, FY 2, FY 3, FY 4, FY 5⟩
  have FX := Lib.hid FY
  have hzw2 := hb.size
  clear hb FY
  go_wp2_with fail
  refine (SE.out _ HRw2.out).mono ?_
  rintro e w3 ⟨rfl, hb⟩
  have HBw3 := Lib.hid (HBw2.out.trans (hb.mono HBw2.out.size))
  have hzw3 := hb.size
  clear hb
  go_wp2_with fail
  go_loopw [6] (fun iv wr => ∃ j : Nat, j ≤ t.size ∧ iv = .int .i64 (j : Int) ∧ Hid (Below w.heap.size w wr)) (fun iv _ => t.size - (intOf iv).toNat)
  case atStart => exact ⟨0, Nat.zero_le _, rfl, HBw3⟩
  case round =>
    obtain ⟨j, hj, rfl, HB⟩ := hrel
    by_cases hlt : j < t.size
    · have hlt' : (j : Int) < (t.size : Int) := by omega
      have hle' : (j : Int) ≤ (t.size : Int) := by omega
      have h0' : (0 : Int) ≤ (j : Int) := by omega
      have HN := Lib.hid (HPX.out j hlt)
      have hse : (t.extract 0 j).size ≤ j := by simp; omega
      have HSZ : Hid ((t.extract 0 j).size ≤ 4194304) := Lib.hid (by omega)
      clear hse
      go_wp2_with fail
      refine (ifdec_any (t.extract 0 j) _ HSZ.out).mono ?_
      rw [HN.out]
      rintro e w4 (⟨_, ga, gc, rfl, hb, ho⟩ | ⟨f', n', ga, gc, hn, _⟩)
      · have HB4 := Lib.hid (HB.out.trans (hb.mono HB.out.size))
        clear hb ho
        unfold frV
        have w9 : IntKind.i64.wrap ((j : Int) + 1) = (j : Int) + 1 := IntWalk.i64_in _ (by omega)
        go_wp2_with fail
        go_roundw
        case rel => exact ⟨j + 1, by omega, by go_num, Lib.hid (HB4.out.alloc HB4.out.size _)⟩
        case measure => simp [intOf]; omega
      · cases hn
    · have hlt' : ¬ (j : Int) < (t.size : Int) := by omega
      go_wp2_with fail
      go_ret
      exact ⟨rfl, HB.out⟩
end Go.Proofs.Ythflokonihegbaa
