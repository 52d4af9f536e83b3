/- The program's FrameEncode. -/
import Derived.Test.YthflokonihegbaaIEnd
import Derived.Test.YthflokonihegbaaIEl
namespace Go.Proofs.Ythflokonihegbaa
open Go.RowKit
set_option linter.unusedVariables false
set_option linter.unusedSimpArgs false

theorem enc_as {w : World} {s t : ByteArray} {n : Nat} {args : Array Value} (h : Calls Try.prog n args w (EncPost w s)) (e : s = t) : Calls Try.prog n args w (EncPost w t) := e ▸ h
theorem enb_any (f : Fr) (ra : Option Addr) (rc : Nat) (w : World) (HR : Hid (Rngs w (.slice ra f.rs.length rc) f.rs)) (hf : fok f = true) :
    Calls Try.prog 43 #[bodyV f (.slice ra f.rs.length rc)] w (EncPost w (fenc f)) := by
  have hk := fok_k hf
  have hb := fok_bnd hf
  have hc := fok_cases hf
  obtain ⟨k, a, b, c, d, rs⟩ := f
  simp only at hk hb hc HR
  have : k = 0 ∨ k = 1 ∨ k = 2 ∨ k = 3 ∨ k = 4 ∨ k = 5 ∨ k = 6 ∨ k = 7 ∨ k = 8 ∨ k = 9 ∨ k = 10 := by omega
  rcases this with rfl | rfl | rfl | rfl | rfl | rfl | rfl | rfl | rfl | rfl | rfl
  · exact enc_as (enb_0 w) (fenc_x ⟨0, a, b, c, d, rs⟩ (by simp) (by simp) (by simp)).symm
  · exact enc_as (enb_1 w) (fenc_x ⟨1, a, b, c, d, rs⟩ (by simp) (by simp) (by simp)).symm
  · have hm : ∀ r ∈ rs, 0 ≤ r.1 ∧ r.1 ≤ r.2 ∧ r.2 ≤ 999 := by
      rcases hc with c | c | c | c | c | c | c | c
      · exact vfrom_mem 0 rs (by omega) (rvalid_parts c.2.2.2).1
      all_goals (exfalso; omega)
    refine enc_as (enb_2 a ra rc rs w HR hb.1 (Lib.hid hm)) ?_
    rw [fenc_2 _ rfl, joinS_app, ← joinS_app [2] [a]]
    rfl
  · refine enc_as (enb_3 a b c d w (by omega)) ?_
    rw [fenc_3 _ (.inl rfl), joinS_app, ← joinS_app [3] [a, b, c], app_assoc']
    rfl
  · refine enc_as (enb_4 a b w) ?_
    rw [fenc_x _ (by simp) (by simp) (by simp), ← joinS_app [4] [a, b]]; rfl
  · refine enc_as (enb_5 a w) ?_
    rw [fenc_x _ (by simp) (by simp) (by simp), ← joinS_app [5] [a]]; rfl
  · refine enc_as (enb_6 a w) ?_
    rw [fenc_x _ (by simp) (by simp) (by simp), ← joinS_app [6] [a]]; rfl
  · refine enc_as (enb_7 a b w) ?_
    rw [fenc_x _ (by simp) (by simp) (by simp), ← joinS_app [7] [a, b]]; rfl
  · refine enc_as (enb_8 a w) ?_
    rw [fenc_x _ (by simp) (by simp) (by simp), ← joinS_app [8] [a]]; rfl
  · refine enc_as (enb_9 d w (by omega)) ?_
    rw [fenc_3 _ (.inr rfl), joinS_app, app_assoc']
    rfl
  · refine enc_as (enb_10 a w) ?_
    rw [fenc_x _ (by simp) (by simp) (by simp), ← joinS_app [10] [a]]; rfl

set_option maxRecDepth 100000 in
set_option maxHeartbeats 1000000 in
theorem ifenc_any (f : Fr) (v : Value) (w : World) (h : Rngs w v f.rs) (hl : f.rs.length ≤ 1048576) (hd : f.d.size ≤ 2097152) : Calls Try.prog 16 #[frV f v] w (EncPost w (fencS f)) := by
  have HV := Lib.hid (fun W h => vb_any f v W h hl)
  have H := Lib.hid h
  cases hf : fok f
  · unfold fencS vbR at *
    rw [hf] at HV ⊢
    unfold frV at HV ⊢
    clear h hf
    go_enter Try.func16, Try.ntmps16
    go_wp2_with fail
    refine (HV.out _ (H.out.below ((Below.refl _ _).alloc (Nat.le_refl _) _))).mono ?_
    rintro e w1 ⟨rfl, hb⟩
    have HB := Lib.hid (((Below.refl w.heap.size w).alloc (Nat.le_refl _) _).trans (hb.mono (by simp)))
    clear hb
    go_wp2_with fail
    go_ret
    exact ⟨rfl, HB.out⟩
  · obtain ⟨ra, rc, rfl, hc⟩ := h
    have HB := Lib.hid (fun W h => enb_any f ra rc W h hf)
    unfold fencS vbR at *
    rw [hf] at HV ⊢
    unfold frV at HV ⊢
    unfold bodyV at HV HB
    generalize bodyT f.k = T at *
    generalize bodyX f.k f.a f.b f.c f.d (.slice ra f.rs.length rc) = x at *
    clear hf hc
    go_enter Try.func16, Try.ntmps16
    go_wp2_with fail
    refine (HV.out _ (H.out.below ((Below.refl _ _).alloc (Nat.le_refl _) _))).mono ?_
    rintro e w1 ⟨rfl, hb⟩
    have HB1 := Lib.hid (((Below.refl w.heap.size w).alloc (Nat.le_refl _) _).trans (hb.mono (by simp)))
    clear hb
    go_wp2_with fail
    refine (HB.out _ (Lib.hid (H.out.below HB1.out))).mono ?_
    rintro e w2 ⟨rfl, hb⟩
    have HB2 := Lib.hid (HB1.out.trans (hb.mono HB1.out.size))
    clear hb
    go_wp2_with fail
    go_ret
    exact ⟨rfl, HB2.out⟩

end Go.Proofs.Ythflokonihegbaa
