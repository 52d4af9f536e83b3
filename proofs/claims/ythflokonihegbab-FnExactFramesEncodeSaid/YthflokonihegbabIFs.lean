/- The program's FramesEncode. -/
import Derived.Test.YthflokonihegbabIC
import Derived.Test.YthflokonihegbabSFs
namespace Go.Proofs.Ythflokonihegbab
open Go.RowKit
set_option linter.unusedVariables false
set_option linter.unusedSimpArgs false

theorem fencS_sz {f : Fr} : (fencS f).size ≤ 160 := by
  unfold fencS; split
  · rename_i h; exact (fenc_size h).2
  · show 0 ≤ 160; omega
set_option maxRecDepth 100000 in
set_option maxHeartbeats 2000000 in
theorem ifsenc_any (v : Value) (l : List Fr) (w : World) (h : Frs w v l) (hl : l.length ≤ 1048576) (hlen : ∀ f ∈ l, f.rs.length ≤ 1048576 ∧ f.d.size ≤ 2097152) : Calls Try.prog 23 #[v] w (FsPost w l) := by
  obtain ⟨a, c, rfl, h⟩ := h
  have HC := Lib.hid h
  have HLN := Lib.hid hlen
  clear h hlen
  by_cases h0 : l.length = 0
  · have h0' : ((l.length : Int) == 0) = true := by rw [beq_iff_eq]; omega
    have HY : Hid (fsok l = false) := Lib.hid (by unfold fsok; rw [decide_eq_false (by omega), Bool.and_false])
    clear h0
    go_enter Try.func23, Try.ntmps23
    go_wp2_with fail
    go_ret2
    exact FsPost.no HY.out (Below.refl _ _)
  have h0' : ((l.length : Int) == 0) = false := by rw [beq_eq_false_iff_ne]; omega
  by_cases h6 : 6 < l.length
  · have h6' : (6 : Int) < (l.length : Int) := by omega
    have HY : Hid (fsok l = false) := Lib.hid (by unfold fsok; rw [decide_eq_false (by omega), Bool.and_false])
    clear h0
    go_enter Try.func23, Try.ntmps23
    go_wp2_with fail
    go_ret2
    exact FsPost.no HY.out (Below.refl _ _)
  have h6' : ¬ (6 : Int) < (l.length : Int) := by omega
  have HLL := Lib.hid (show 1 ≤ l.length ∧ l.length ≤ 6 by omega)
  clear h0
  go_enter Try.func23, Try.ntmps23
  go_wp2_with fail
  have F0 := Lib.hid (Lib.fresh_isBuilder 70 5 w)
  go_loopw [6, 7, 18] (fun _ _ iv wr => ∃ (j : Nat) (s : ByteArray), j ≤ l.length ∧ iv = .int .i64 (j : Int) ∧ s.size ≤ 160 * j ∧ Hid (okF (l.take j) = true ∧ s = catF (l.take j)) ∧ Hid (Lib.IsBuilder 70 5 w.heap.size w.heap.size (cellsS s) wr) ∧ Hid (Below w.heap.size w wr)) (fun _ _ iv _ => l.length - (intOf iv).toNat)
  case atStart => exact ⟨0, ⟨#[]⟩, Nat.zero_le _, rfl, Nat.le_refl _, ⟨rfl, rfl⟩, F0.out, (Below.refl _ _).alloc (Nat.le_refl _) _⟩
  case round =>
    obtain ⟨j, s, hj, rfl, hs, HS, HBL, HB⟩ := hrel
    by_cases hlt : j < l.length
    · have hlt' : (j : Int) < (l.length : Int) := by omega
      obtain ⟨g, o, rfl, hc⟩ := HC.out (by rintro rfl; simp at hlt)
      obtain ⟨ra, rc, hf⟩ := hc j hlt
      have hfw := hf.below HB.out
      have hbd := HLN.out _ (takeF l j hlt).2
      have HTK := Lib.hid (takeF l j hlt).1
      have HBAD := Lib.hid (okF_bad l j hlt)
      have HGOOD := Lib.hid (okF_take l j hlt HS.out.1)
      generalize l.getD j frD = f at *
      obtain ⟨c0, c1, c2, c3, c4, c5, hr⟩ := hfw
      have HR := Lib.hid hr
      have SV := Lib.hid (fun W h => ifenc_any f (.slice ra f.rs.length rc) W h hbd.1 hbd.2)
      clear hf hc hr hbd
      unfold frV at SV
      have HW : Hid (Below wr.heap.size wr (wr.alloc (.cells #[.int .i64 f.k, .int .i64 f.a, .int .i64 f.b, .int .i64 f.c, .string f.d, .slice ra f.rs.length rc] 29))) := Lib.hid ((Below.refl _ _).alloc (Nat.le_refl _) _)
      go_wp2_with fail
      refine (SV.out _ (HR.out.below HW.out)).mono ?_
      rintro e w1 ⟨rfl, hb1⟩
      have hbx := HW.out.trans (hb1.mono HW.out.size)
      have HB1 := Lib.hid (HB.out.trans (hbx.mono HB.out.size))
      have HBL1 := Lib.hid (builder_below HBL.out hbx)
      clear hb1 hbx c0 c1 c2 c3 c4 c5
      cases hok : fok f
      · have HNO : Hid (fsok l = false) := Lib.hid (by unfold fsok; rw [HBAD.out hok]; rfl)
        have he : fencS f = ⟨#[]⟩ := by unfold fencS; rw [hok]; rfl
        rw [he]
        have hem : ByteArray.toList (ByteArray.mk #[]) = [] := by rw [_root_.Go.ByteArray.toList_eq]
        clear hok he
        go_wp2_with fail
        go_ret2
        exact FsPost.no HNO.out HB1.out
      · have HEZ := fenc_size hok
        have he : fencS f = fenc f := by unfold fencS; rw [if_pos hok]
        rw [he]
        have HX : Hid (s ++ fenc f = catF (l.take (j + 1))) := Lib.hid (by rw [HTK.out, catF_app, ← HS.out.2, catF, catF, app_nil])
        have HG := Lib.hid (HGOOD.out hok)
        clear hok he
        generalize fenc f = t at *
        have hem := isEmpty_of_pos (s := t) (by omega)
        go_wp2_with fail
        refine (write_any _ _ _ t _ HBL1.out (by rw [cellsS_len]; omega) HB1.out.size).mono ?_
        rintro e w2 ⟨rfl, hat, hb2⟩
        have HB2 := Lib.hid (HB1.out.trans hb2)
        rw [cellsS_app] at hat
        have HAT : Hid (Lib.IsBuilder 70 5 w.heap.size w.heap.size (cellsS (s ++ t)) w2) := Lib.hid (.inr hat)
        clear hat hb2
        have hst : (s ++ t).size ≤ 160 * (j + 1) := by rw [size_app]; omega
        generalize s ++ t = s2 at *
        go_wp2_with fail
        go_roundw
        case rel => exact ⟨j + 1, s2, by omega, by go_num, hst, Lib.hid ⟨HG.out, HX.out⟩, HAT, HB2⟩
        case measure => simp [intOf]; omega
    · have hlt' : ¬ (j : Int) < (l.length : Int) := by omega
      have hte : l.take j = l := List.take_of_length_le (by omega)
      have HS2 := HS.out
      rw [hte] at HS2
      have HS3 := Lib.hid HS2
      clear HS2 hte
      have HY : Hid (fsok l = true) := Lib.hid (by unfold fsok; rw [HS3.out.1, decide_eq_true HLL.out]; rfl)
      go_wp2_with fail
      refine (bstring_any _ _ _ _ HBL.out HB.out.size).mono ?_
      rintro e w' ⟨rfl, hb⟩
      have HB3 := Lib.hid (HB.out.trans hb)
      clear hb
      go_wp2_with fail
      go_ret2
      exact FsPost.yes HY.out HS3.out.2 HB3.out
end Go.Proofs.Ythflokonihegbab
