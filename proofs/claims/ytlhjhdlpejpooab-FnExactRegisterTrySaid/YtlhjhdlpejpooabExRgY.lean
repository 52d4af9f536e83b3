/- The exact law of RegisterTry: the walk. -/
import Derived.Test.YtlhjhdlpejpooabExRgW
namespace Go.Proofs.Ytlhjhdlpejpooab
open Go.RowKit
set_option linter.unusedVariables false
set_option linter.unusedSimpArgs false

set_option maxRecDepth 100000 in
set_option maxHeartbeats 8000000 in
theorem exrgy_walk (b : Reg) (ra : Option Addr) (rc : Nat) (x y : Int) (w : World) (hl : b.2.length ≤ 9223372036854775807) (h : Tics w (.slice ra b.2.length rc) b.2) : Calls Try.prog 4 #[.agg #[.int .i64 b.1, .slice ra b.2.length rc], .agg #[.int .i64 x, .int .i64 y]] w fun e w' => e = .returned (.bool true) ∧ Below w.heap.size w w' := by
  obtain ⟨n, l⟩ := b
  simp only at hl h ⊢
  have H := Lib.hid h
  clear h
  have HSZ := Lib.hid (fun W => szreg_any n ra l.length rc 1048576 W (by omega) (by omega) hl)
  have hsz := szI_cases l.length 1048576 (by omega) (by omega)
  generalize szI l.length 1048576 = z at *
  have Y0 : Hid (YS w ((w.alloc (.cells #[.int .i64 n, .slice ra l.length rc] 24)).alloc (.cells #[.int .i64 x, .int .i64 y] 36)) n (.slice ra l.length rc) x y) := Lib.hid ⟨((Below.refl _ _).alloc (Nat.le_refl _) _).alloc (by simp) _, (RgV.new w n (.slice ra l.length rc) 24).below ((Below.refl _ _).alloc (Nat.le_refl _) (.cells #[.int .i64 x, .int .i64 y] 36)), by have k := RgV.new (w.alloc (.cells #[.int .i64 n, .slice ra l.length rc] 24)) x (.int .i64 y) 36; simpa using k⟩
  rcases hsz with hz | ⟨hz0, hz1, hll⟩
  · subst hz
    obtain ⟨c0, c1, c2, c3⟩ := Y0.out.cells
    go_enter Try.func4, Try.ntmps4
    go_wp2_with fail
    refine (HSZ.out _).mono ?_
    rintro e w1 ⟨rfl, hb1⟩
    have Y1 := Lib.hid (Y0.out.below hb1)
    clear hb1 c0 c1 c2 c3
    go_wp2_with fail
    go_ret
    exact ⟨rfl, Y1.out.bel⟩
  have hz' : ¬ z < 0 := by omega
  obtain ⟨r, hr⟩ : ∃ r, rtryv (n, l) (x, y) = r := ⟨_, rfl⟩
  obtain ⟨⟨n', m⟩, q⟩ := r
  have hm8 := rtryv_len hr
  simp only at hm8
  have HR := Lib.hid hr
  clear hr
  have hqq : (q != q) = false := by cases q <;> rfl
  have TOR := Lib.hid (fun (W : World) (hb : Below w.heap.size w W) => toreg_any n l ra rc W (H.out.below hb) hll)
  have SPC : Hid (∀ (W : World) (v : Value), Tcs W v l → v.ownBlock ≠ none → Calls Try.prog 17 #[.agg #[.int .i64 n, v], .agg #[.int .i64 x, .int .i64 y]] W (GotR W n' m q)) := Lib.hid (fun W v h1 h2 => by have k := stryv_any n x y v l W h1 h2 hll; rw [HR.out] at k; exact k)
  have IMC : Hid (∀ (W : World) (v : Value), Tcs W v l → v.ownBlock ≠ none → Calls Try.prog 19 #[.agg #[.int .i64 n, v], .agg #[.int .i64 x, .int .i64 y]] W (GotR W n' m q)) := Lib.hid (fun W v h1 _ => by have k := itry_any n x y v l W h1 hll; rw [HR.out] at k; exact k)
  obtain ⟨c0, c1, c2, c3⟩ := Y0.out.cells
  go_enter Try.func4, Try.ntmps4
  go_wp2_with fail
  refine (HSZ.out _).mono ?_
  rintro e w1 ⟨rfl, hb1⟩
  have Y1 := Lib.hid (Y0.out.below hb1)
  clear hb1 c0 c1 c2 c3 Y0
  obtain ⟨c0, c1, c2, c3⟩ := Y1.out.cells
  obtain ⟨F, hF⟩ : ∃ F : World → Prop, F = fun W => YS w W n (.slice ra l.length rc) x y := ⟨_, rfl⟩
  have K : Hid (Kp w1.heap.size F) := Lib.hid (by rw [hF]; exact Kp.ys Y1.out.tr.lt)
  have FW : Hid (F w1) := Lib.hid (by rw [hF]; exact Y1.out)
  have HT := Lib.hid (Nat.le_refl w1.heap.size)
  have CE : Hid (∀ W, F W → (fun W => W.cell? ⟨w.heap.size, 0, none⟩ = some (.int .i64 n) ∧ W.cell? ⟨w.heap.size, 1, none⟩ = some (.slice ra l.length rc) ∧ W.cell? ⟨w.heap.size + 1, 0, none⟩ = some (.int .i64 x) ∧ W.cell? ⟨w.heap.size + 1, 1, none⟩ = some (.int .i64 y)) W) := Lib.hid (by rw [hF]; exact fun W h => h.cells)
  have FT : Hid (∀ W, F W → Below w.heap.size w W) := Lib.hid (by rw [hF]; exact fun W h => h.bel)
  have MN := Lib.hid SPC.out
  have HF := Lib.hid hF
  have HW1 := Lib.hid Y1.out.tr.lt
  clear hF Y1
  go_upto_region 5 with fail
  go_cut [6, 7] (fun sv qv wx => ∃ (p hi : Nat) (v : Value), sv = .pointer (some ⟨p, 0, none⟩) ∧ qv = .bool q ∧ Hid (F wx) ∧ Hid (VR wx w1.heap.size hi p n' v m) ∧ Hid (hi ≤ wx.heap.size))
  case first =>
    have D0 := Lib.hid (K.out.drew FW.out)
    have D0a := Lib.hid (K.out.drew (K.out.alloc FW.out (.cells #[.int .i64 0, .slice none 0 0] 28)))
    have Z0a := Lib.hid (ZV.below (ZV.new (W := w1) (lo := w1.heap.size) (Nat.le_refl _) 28) (Below.refl _ _).drew)
    have HL0 := Lib.hid (Nat.le_refl w1.heap.size)
    have k0 := CE.out _ D0.out
    have k0a := CE.out _ D0a.out
    go_region_held3 (fun W => W.cell? ⟨w.heap.size, 0, none⟩ = some (.int .i64 n) ∧ W.cell? ⟨w.heap.size, 1, none⟩ = some (.slice ra l.length rc) ∧ W.cell? ⟨w.heap.size + 1, 0, none⟩ = some (.int .i64 x) ∧ W.cell? ⟨w.heap.size + 1, 1, none⟩ = some (.int .i64 y)) (with_reducible first | assumption | exact k0 | exact k0a | exact k1 | exact k1a | exact k2 | exact k2a | exact k3 | exact k3a | exact kE)
      ((first
        | (go_at_call 12; (with_reducible refine (TOR.out (w1.alloc (.cells #[.int .i64 0, .slice none 0 0] 28)).drew (FT.out _ D0a.out)).mono ?_); rintro e u1 ⟨b1, c1, rfl, hb1, ho1⟩; have O1 := Lib.hid (OwnTc.zero ho1); have D1 := Lib.hid (K.out.bel D0a.out hb1); have k1 := CE.out _ D1.out; have HL1 : Hid (w1.heap.size ≤ u1.heap.size) := Lib.hid (by have h1 := HL0.out; have h2 := hb1.size; simp at h1 h2 ⊢; omega); have Zc := Lib.hid (Z0a.out.below hb1))
        | (go_at_call 12; (with_reducible refine (TOR.out w1.drew (FT.out _ D0.out)).mono ?_); rintro e u1 ⟨b1, c1, rfl, hb1, ho1⟩; have O1 := Lib.hid (OwnTc.zero ho1); have D1 := Lib.hid (K.out.bel D0.out hb1); have k1 := CE.out _ D1.out; have HL1 : Hid (w1.heap.size ≤ u1.heap.size) := Lib.hid (by have h1 := HL0.out; have h2 := hb1.size; simp at h1 h2 ⊢; omega); have D1a := Lib.hid (K.out.alloc D1.out (.cells #[.int .i64 0, .slice none 0 0] 28)); have k1a := CE.out _ D1a.out; have Z1a := Lib.hid (ZV.new (W := u1) (lo := w1.heap.size) HL1.out 28); have O1a := Lib.hid (O1.out.below ((Below.refl _ _).alloc (Nat.le_refl _) (.cells #[.int .i64 0, .slice none 0 0] 28))))
        | (go_at_call 18; have zq := Zc.out.lo; clear zq; (with_reducible refine (totk_any x y u1).mono ?_); rintro e u2 ⟨rfl, hb2⟩; have D2 := Lib.hid (K.out.bel D1.out hb2); have k2 := CE.out _ D2.out; have HL2 : Hid (w1.heap.size ≤ u2.heap.size) := Lib.hid (by have h1 := HL1.out; have h2 := hb2.size; simp at h1 h2 ⊢; omega); have Zc := Lib.hid (Zc.out.below hb2); have O2 := Lib.hid (OwnTc.below O1.out hb2))
        | (go_at_call 18; (with_reducible refine (totk_any x y (u1.alloc (.cells #[.int .i64 0, .slice none 0 0] 28))).mono ?_); rintro e u2 ⟨rfl, hb2⟩; have D2 := Lib.hid (K.out.bel D1a.out hb2); have k2 := CE.out _ D2.out; have HL2 : Hid (w1.heap.size ≤ u2.heap.size) := Lib.hid (by have h1 := HL1.out; have h2 := hb2.size; simp at h1 h2 ⊢; omega); have Zc := Lib.hid (Z1a.out.below hb2); have O2 := Lib.hid (OwnTc.below O1a.out hb2))
        | (go_at_call 18; (with_reducible refine (totk_any x y u1).mono ?_); rintro e u2 ⟨rfl, hb2⟩; have D2 := Lib.hid (K.out.bel D1.out hb2); have k2 := CE.out _ D2.out; have HL2 : Hid (w1.heap.size ≤ u2.heap.size) := Lib.hid (by have h1 := HL1.out; have h2 := hb2.size; simp at h1 h2 ⊢; omega); have D2a := Lib.hid (K.out.alloc D2.out (.cells #[.int .i64 0, .slice none 0 0] 28)); have k2a := CE.out _ D2a.out; have Z2a := Lib.hid (ZV.new (W := u2) (lo := w1.heap.size) HL2.out 28); have O2 := Lib.hid (OwnTc.below O1.out hb2); have O2a := Lib.hid (O2.out.below ((Below.refl _ _).alloc (Nat.le_refl _) (.cells #[.int .i64 0, .slice none 0 0] 28))))
        | (go_at_call 17; have zq := Zc.out.lo; clear zq; (with_reducible refine (MN.out u2 _ (Tcs.of_own O2.out) (by simp [Value.ownBlock])).mono ?_); rintro e u3 ⟨vv, rfl, ho, hb3⟩; have HO := Lib.hid ho; obtain ⟨aa, kk, rfl⟩ := OwnTc.shape ho; have D3 := Lib.hid (K.out.bel D2.out hb3); have k3 := CE.out _ D3.out; have HL3 : Hid (w1.heap.size ≤ u3.heap.size) := Lib.hid (by have h1 := HL2.out; have h2 := hb3.size; simp at h1 h2 ⊢; omega); have Zn := Lib.hid (Zc.out.below hb3); have F2 := Lib.hid (VR.store (n := n') Zn.out HO.out Zc.out.x.lt (by have h1 := HL2.out; simp at h1 ⊢; omega)); have F1 := Lib.hid (K.out.far 1 (.slice aa m.length kk) (K.out.far 0 (.int .i64 n') D3.out (Nat.le_trans HT.out Zn.out.lo)) (Nat.le_trans HT.out Zn.out.lo)); have kE := CE.out _ F1.out; have z0 := Zn.out.x.c0; have z1 := Zn.out.x.c1; have f0 := Zn.out.f 0; have f1 := Zn.out.f 1; have HI := Lib.hid (Zn.out.size (.int .i64 n') (.slice aa m.length kk)))
        | (go_at_call 17; (with_reducible refine (MN.out (u2.alloc (.cells #[.int .i64 0, .slice none 0 0] 28)) _ (Tcs.of_own O2a.out) (by simp [Value.ownBlock])).mono ?_); rintro e u3 ⟨vv, rfl, ho, hb3⟩; have HO := Lib.hid ho; obtain ⟨aa, kk, rfl⟩ := OwnTc.shape ho; have D3 := Lib.hid (K.out.bel D2a.out hb3); have k3 := CE.out _ D3.out; have HL3 : Hid (w1.heap.size ≤ u3.heap.size) := Lib.hid (by have h1 := HL2.out; have h2 := hb3.size; simp at h1 h2 ⊢; omega); have Zn := Lib.hid (Z2a.out.below hb3); have F2 := Lib.hid (VR.store (n := n') Zn.out HO.out Z2a.out.x.lt (by have h1 := HL2.out; simp at h1 ⊢; omega)); have F1 := Lib.hid (K.out.far 1 (.slice aa m.length kk) (K.out.far 0 (.int .i64 n') D3.out (Nat.le_trans HT.out Zn.out.lo)) (Nat.le_trans HT.out Zn.out.lo)); have kE := CE.out _ F1.out; have z0 := Zn.out.x.c0; have z1 := Zn.out.x.c1; have f0 := Zn.out.f 0; have f1 := Zn.out.f 1; have HI := Lib.hid (Zn.out.size (.int .i64 n') (.slice aa m.length kk)))
        | (go_at_call 17; (with_reducible refine (MN.out u2 _ (Tcs.of_own O2.out) (by simp [Value.ownBlock])).mono ?_); rintro e u3 ⟨vv, rfl, ho, hb3⟩; have HO := Lib.hid ho; obtain ⟨aa, kk, rfl⟩ := OwnTc.shape ho; have D3 := Lib.hid (K.out.bel D2.out hb3); have k3 := CE.out _ D3.out; have HL3 : Hid (w1.heap.size ≤ u3.heap.size) := Lib.hid (by have h1 := HL2.out; have h2 := hb3.size; simp at h1 h2 ⊢; omega); have F2 := Lib.hid (VR.make (n := n') (lo := w1.heap.size) HO.out (by have h1 := HL2.out; simp at h1 ⊢; omega) HL3.out 28); have F1 := Lib.hid (K.out.alloc D3.out (.cells #[.int .i64 n', .slice aa m.length kk] 28)); have kE := CE.out _ F1.out; have k3a := CE.out _ (K.out.alloc D3.out (.cells #[.int .i64 0, .slice none 0 0] 28)); have HI := Lib.hid (show u3.heap.size + 1 ≤ (u3.alloc (.cells #[.int .i64 n', .slice aa m.length kk] 28)).heap.size by simp))))
    all_goals
      go_wp2_with fail
      go_meet
      exact ⟨_, _, _, rfl, rfl, F1, F2, HI⟩
  case rest =>
    obtain ⟨p2, h2, v2, rfl, rfl, FC, V2, HI2⟩ := hcut
    obtain ⟨a2, k2, rfl⟩ := OwnTc.shape V2.out.o
    have YC : Hid (YS w wc n (.slice ra l.length rc) x y) := Lib.hid (by have k := FC.out; rw [HF.out] at k; exact k)
    clear K FW HT CE FT MN FC HF c0 c1 c2 c3
    obtain ⟨c0, c1, c2, c3⟩ := YC.out.cells
    go_wp2_with fail
    refine (TOR.out _ YC.out.bel).mono ?_
    rintro e w3 ⟨b3, k3, rfl, hb3, ho3⟩
    have Y3 := Lib.hid ((YC.out.below hb3).alloc (.cells #[.int .i64 n, .slice (some ⟨b3, 0, none⟩) l.length k3] 28))
    have A2 := Lib.hid ((V2.out.below hb3).alloc (.cells #[.int .i64 n, .slice (some ⟨b3, 0, none⟩) l.length k3] 28))
    have A3 := Lib.hid (VR.make (n := n) (lo := wc.heap.size) ho3 (Nat.le_refl _) hb3.size 28)
    have HP3 : Hid (w3.heap.size + 1 ≤ (w3.alloc (.cells #[.int .i64 n, .slice (some ⟨b3, 0, none⟩) l.length k3] 28)).heap.size) := Lib.hid (by simp)
    have HT1 : Hid (w.heap.size + 1 < w1.heap.size) := Lib.hid HW1.out
    clear hb3 ho3 YC V2 c0 c1 c2 c3
    obtain ⟨c0, c1, c2, c3⟩ := Y3.out.cells
    obtain ⟨d0, d1⟩ := A3.out.x
    go_upto_region 7 with fail
    generalize w3.alloc (.cells #[.int .i64 n, .slice (some ⟨b3, 0, none⟩) l.length k3] 28) = W3 at Y3 A2 A3 HP3 c0 c1 c2 c3 d0 d1 ⊢
    generalize w3.heap.size = p3 at A3 HP3 d0 d1 ⊢
    generalize wc.heap.size = s2 at A3 HI2
    obtain ⟨F, hF⟩ : ∃ F : World → Prop, F = fun W => YS w W n (.slice ra l.length rc) x y ∧ VR W w1.heap.size h2 p2 n' (.slice a2 m.length k2) m ∧ VR W s2 (p3 + 1) p3 n (.slice (some ⟨b3, 0, none⟩) l.length k3) l := ⟨_, rfl⟩
    have K : Hid (Kp W3.heap.size F) := Lib.hid (by rw [hF]; exact (Kp.ys Y3.out.tr.lt).and ((Kp.vr (by have := HI2.out; have := HP3.out; have := A3.out.r; omega)).and (Kp.vr HP3.out)))
    have FW : Hid (F W3) := Lib.hid (by rw [hF]; exact ⟨Y3.out, A2.out, A3.out⟩)
    have HT := Lib.hid (Nat.le_refl W3.heap.size)
    have CE : Hid (∀ W, F W → (fun W => W.cell? ⟨p3, 0, none⟩ = some (.int .i64 n) ∧ W.cell? ⟨p3, 1, none⟩ = some (.slice (some ⟨b3, 0, none⟩) l.length k3) ∧ W.cell? ⟨w.heap.size + 1, 0, none⟩ = some (.int .i64 x) ∧ W.cell? ⟨w.heap.size + 1, 1, none⟩ = some (.int .i64 y)) W) := Lib.hid (by rw [hF]; exact fun W h => ⟨h.2.2.x.c0, h.2.2.x.c1, h.1.tr.c0, h.1.tr.c1⟩)
    have FO : Hid (∀ W, F W → Tcs W (.slice (some ⟨b3, 0, none⟩) l.length k3) l) := Lib.hid (by rw [hF]; exact fun W h => Tcs.of_own h.2.2.o)
    have MN := Lib.hid IMC.out
    have HF := Lib.hid hF
    clear hF Y3 A2 A3 c0 c1 c2 c3 d0 d1
    go_upto_region 7 with fail
    go_cut [9, 10] (fun sv qv wx => ∃ (p hi : Nat) (v : Value), sv = .pointer (some ⟨p, 0, none⟩) ∧ qv = .bool q ∧ Hid (F wx) ∧ Hid (VR wx W3.heap.size hi p n' v m) ∧ Hid (hi ≤ wx.heap.size))
    case first =>
      have D0 := Lib.hid (K.out.drew FW.out)
      have D0a := Lib.hid (K.out.drew (K.out.alloc FW.out (.cells #[.int .i64 0, .slice none 0 0] 28)))
      have Z0a := Lib.hid (ZV.below (ZV.new (W := W3) (lo := W3.heap.size) (Nat.le_refl _) 28) (Below.refl _ _).drew)
      have HL0 := Lib.hid (Nat.le_refl W3.heap.size)
      have k0 := CE.out _ D0.out
      have k0a := CE.out _ D0a.out
      go_region_held3 (fun W => W.cell? ⟨p3, 0, none⟩ = some (.int .i64 n) ∧ W.cell? ⟨p3, 1, none⟩ = some (.slice (some ⟨b3, 0, none⟩) l.length k3) ∧ W.cell? ⟨w.heap.size + 1, 0, none⟩ = some (.int .i64 x) ∧ W.cell? ⟨w.heap.size + 1, 1, none⟩ = some (.int .i64 y)) (with_reducible first | assumption | exact k0 | exact k0a | exact k1 | exact k1a | exact k2 | exact k2a | exact kE)
        ((first
          | (go_at_call 18; (with_reducible refine (totk_any x y (W3.alloc (.cells #[.int .i64 0, .slice none 0 0] 28)).drew).mono ?_); rintro e u1 ⟨rfl, hb1⟩; have D1 := Lib.hid (K.out.bel D0a.out hb1); have k1 := CE.out _ D1.out; have HL1 : Hid (W3.heap.size ≤ u1.heap.size) := Lib.hid (by have h1 := HL0.out; have h2 := hb1.size; simp at h1 h2 ⊢; omega); have Zc := Lib.hid (Z0a.out.below hb1))
          | (go_at_call 18; (with_reducible refine (totk_any x y W3.drew).mono ?_); rintro e u1 ⟨rfl, hb1⟩; have D1 := Lib.hid (K.out.bel D0.out hb1); have k1 := CE.out _ D1.out; have HL1 : Hid (W3.heap.size ≤ u1.heap.size) := Lib.hid (by have h1 := HL0.out; have h2 := hb1.size; simp at h1 h2 ⊢; omega); have D1a := Lib.hid (K.out.alloc D1.out (.cells #[.int .i64 0, .slice none 0 0] 28)); have k1a := CE.out _ D1a.out; have Z1a := Lib.hid (ZV.new (W := u1) (lo := W3.heap.size) HL1.out 28))
          | (go_at_call 19; have zq := Zc.out.lo; clear zq; (with_reducible refine (MN.out u1 _ (FO.out _ D1.out) (by simp [Value.ownBlock])).mono ?_); rintro e u2 ⟨vv, rfl, ho, hb2⟩; have HO := Lib.hid ho; obtain ⟨aa, kk, rfl⟩ := OwnTc.shape ho; have D2 := Lib.hid (K.out.bel D1.out hb2); have k2 := CE.out _ D2.out; have HL2 : Hid (W3.heap.size ≤ u2.heap.size) := Lib.hid (by have h1 := HL1.out; have h2 := hb2.size; simp at h1 h2 ⊢; omega); have Zn := Lib.hid (Zc.out.below hb2); have F2 := Lib.hid (VR.store (n := n') Zn.out HO.out Zc.out.x.lt (by have h1 := HL1.out; simp at h1 ⊢; omega)); have F1 := Lib.hid (K.out.far 1 (.slice aa m.length kk) (K.out.far 0 (.int .i64 n') D2.out (Nat.le_trans HT.out Zn.out.lo)) (Nat.le_trans HT.out Zn.out.lo)); have kE := CE.out _ F1.out; have z0 := Zn.out.x.c0; have z1 := Zn.out.x.c1; have f0 := Zn.out.f 0; have f1 := Zn.out.f 1; have HI := Lib.hid (Zn.out.size (.int .i64 n') (.slice aa m.length kk)))
          | (go_at_call 19; (with_reducible refine (MN.out (u1.alloc (.cells #[.int .i64 0, .slice none 0 0] 28)) _ (FO.out _ D1a.out) (by simp [Value.ownBlock])).mono ?_); rintro e u2 ⟨vv, rfl, ho, hb2⟩; have HO := Lib.hid ho; obtain ⟨aa, kk, rfl⟩ := OwnTc.shape ho; have D2 := Lib.hid (K.out.bel D1a.out hb2); have k2 := CE.out _ D2.out; have HL2 : Hid (W3.heap.size ≤ u2.heap.size) := Lib.hid (by have h1 := HL1.out; have h2 := hb2.size; simp at h1 h2 ⊢; omega); have Zn := Lib.hid (Z1a.out.below hb2); have F2 := Lib.hid (VR.store (n := n') Zn.out HO.out Z1a.out.x.lt (by have h1 := HL1.out; simp at h1 ⊢; omega)); have F1 := Lib.hid (K.out.far 1 (.slice aa m.length kk) (K.out.far 0 (.int .i64 n') D2.out (Nat.le_trans HT.out Zn.out.lo)) (Nat.le_trans HT.out Zn.out.lo)); have kE := CE.out _ F1.out; have z0 := Zn.out.x.c0; have z1 := Zn.out.x.c1; have f0 := Zn.out.f 0; have f1 := Zn.out.f 1; have HI := Lib.hid (Zn.out.size (.int .i64 n') (.slice aa m.length kk)))
          | (go_at_call 19; (with_reducible refine (MN.out u1 _ (FO.out _ D1.out) (by simp [Value.ownBlock])).mono ?_); rintro e u2 ⟨vv, rfl, ho, hb2⟩; have HO := Lib.hid ho; obtain ⟨aa, kk, rfl⟩ := OwnTc.shape ho; have D2 := Lib.hid (K.out.bel D1.out hb2); have k2 := CE.out _ D2.out; have HL2 : Hid (W3.heap.size ≤ u2.heap.size) := Lib.hid (by have h1 := HL1.out; have h2 := hb2.size; simp at h1 h2 ⊢; omega); have F2 := Lib.hid (VR.make (n := n') (lo := W3.heap.size) HO.out (by have h1 := HL1.out; simp at h1 ⊢; omega) HL2.out 28); have F1 := Lib.hid (K.out.alloc D2.out (.cells #[.int .i64 n', .slice aa m.length kk] 28)); have kE := CE.out _ F1.out; have k2a := CE.out _ (K.out.alloc D2.out (.cells #[.int .i64 0, .slice none 0 0] 28)); have HI := Lib.hid (show u2.heap.size + 1 ≤ (u2.alloc (.cells #[.int .i64 n', .slice aa m.length kk] 28)).heap.size by simp))))
      all_goals
        go_wp2_with fail
        go_meet
        exact ⟨_, _, _, rfl, rfl, F1, F2, HI⟩
    case rest =>
      obtain ⟨p4, h4, v4, rfl, rfl, FC, A4, HI⟩ := hcut
      obtain ⟨a4, k4, rfl⟩ := OwnTc.shape A4.out.o
      have Q := Lib.hid (show YS w wc n (.slice ra l.length rc) x y ∧ VR wc w1.heap.size h2 p2 n' (.slice a2 m.length k2) m ∧ VR wc s2 (p3 + 1) p3 n (.slice (some ⟨b3, 0, none⟩) l.length k3) l by have k := FC.out; rw [HF.out] at k; exact k)
      have Y := Lib.hid Q.out.1
      have A2 := Lib.hid Q.out.2.1
      have A3 := Lib.hid Q.out.2.2
      clear K FW HT CE FO MN FC HF Q
      generalize W3.heap.size = s3 at HP3 A4
      have HO : Hid (w.heap.size + 1 < w1.heap.size ∧ w1.heap.size ≤ p2 ∧ p2 < h2 ∧ h2 ≤ s2 ∧ s2 ≤ p3 ∧ p3 + 1 ≤ s3 ∧ s3 ≤ p4 ∧ p4 < h4) := Lib.hid (by have := HW1.out; have := A2.out.r; have := A3.out.r; have := A4.out.r; have := HI2.out; have := HP3.out; omega)
      obtain ⟨c0, c1, c2, c3⟩ := Y.out.cells
      obtain ⟨d0, d1⟩ := A2.out.x
      obtain ⟨d2, d3⟩ := A3.out.x
      obtain ⟨d4, d5⟩ := A4.out.x
      go_wp2_with fail
      refine (eqreg_any n' m a4 a2 k4 k2 _ (Tics.of_own A4.out.o) (Tics.of_own A2.out.o) (by omega)).mono ?_
      rintro e w6 ⟨rfl, hb6⟩
      clear c0 c1 c2 c3 d0 d1 d2 d3 d4 d5
      have Y := Lib.hid (Y.out.below hb6)
      have A2 := Lib.hid (A2.out.below hb6)
      have A3 := Lib.hid (A3.out.below hb6)
      have A4 := Lib.hid (A4.out.below hb6)
      have HI := Lib.hid (Nat.le_trans HI.out hb6.size)
      clear hb6
      obtain ⟨c0, c1, c2, c3⟩ := Y.out.cells
      obtain ⟨d0, d1⟩ := A2.out.x
      obtain ⟨d2, d3⟩ := A3.out.x
      obtain ⟨d4, d5⟩ := A4.out.x
      have Yd := Lib.hid Y.out.drew
      have A2d := Lib.hid A2.out.drew
      have A3d := Lib.hid A3.out.drew
      have A4d := Lib.hid A4.out.drew
      have kS := And.intro Yd.out.ar.c0 (And.intro Yd.out.ar.c1 (And.intro A3d.out.x.c0 A3d.out.x.c1))
      go_wp2_with fail
      go_region_held3 (fun W => W.cell? ⟨w.heap.size, 0, none⟩ = some (.int .i64 n) ∧ W.cell? ⟨w.heap.size, 1, none⟩ = some (.slice ra l.length rc) ∧ W.cell? ⟨p3, 0, none⟩ = some (.int .i64 n) ∧ W.cell? ⟨p3, 1, none⟩ = some (.slice (some ⟨b3, 0, none⟩) l.length k3)) (with_reducible first | assumption | exact kS | exact kT | exact kU)
        ((first
          | (go_at_call 14; (with_reducible refine (eqreg_any n l (some ⟨b3, 0, none⟩) (some ⟨b7, 0, none⟩) k3 k7 _ (Tics.of_own A3e.out.o) (Tics.of_own O7.out) hll).mono ?_); rintro e w8 ⟨rfl, hb8⟩; have Y := Lib.hid (Ye.out.below hb8); have A2 := Lib.hid (A2e.out.below hb8); have A3 := Lib.hid (A3e.out.below hb8); have A4 := Lib.hid (A4e.out.below hb8); have HI := Lib.hid (Nat.le_trans HI.out hb8.size); have kU := And.intro Y.out.ar.c0 (And.intro Y.out.ar.c1 (And.intro A3.out.x.c0 A3.out.x.c1)))
          | (go_at_call 12; (with_reducible refine (TOR.out _ Yd.out.bel).mono ?_); rintro e w7 ⟨b7, k7, rfl, hb7, ho7⟩; have Ye := Lib.hid (Yd.out.below hb7); have A2e := Lib.hid (A2d.out.below hb7); have A3e := Lib.hid (A3d.out.below hb7); have A4e := Lib.hid (A4d.out.below hb7); have HI := Lib.hid (Nat.le_trans (show h4 ≤ w6.drew.heap.size from HI.out) hb7.size); have O7 := Lib.hid ho7; have kT := And.intro Ye.out.ar.c0 (And.intro Ye.out.ar.c1 (And.intro A3e.out.x.c0 A3e.out.x.c1)))))
      clear c0 c1 c2 c3 d0 d1 d2 d3 d4 d5
      clear kS kT kU Yd A2d A3d A4d Ye A2e A3e A4e O7 hb7 hb8 ho7
      have MK := Lib.hid (mkreg_any n _ l 0 w8 A3.out.o hll)
      obtain ⟨c0, c1, c2, c3⟩ := Y.out.cells
      obtain ⟨d0, d1⟩ := A2.out.x
      obtain ⟨d2, d3⟩ := A3.out.x
      obtain ⟨d4, d5⟩ := A4.out.x
      go_wp2_with fail
      refine MK.out.mono ?_
      rintro e w9 ⟨rfl, hg9, ho9⟩
      have RW3 := Lib.hid A3.out.rows
      clear c0 c1 c2 c3 d0 d1 d2 d3 d4 d5
      have Y := Lib.hid (Y.out.kept hg9 (fun g hg => by have := RW3.out g hg; have := HO.out; omega))
      have A2 := Lib.hid (A2.out.kept hg9 (fun g hg => by have := RW3.out g hg; have := HO.out; omega))
      have A4 := Lib.hid (A4.out.kept hg9 (fun g hg => by have := RW3.out g hg; have := HO.out; omega))
      have A3 := Lib.hid (A3.out.mark hg9 ho9)
      have HI := Lib.hid (Nat.le_trans HI.out hg9.size)
      have hk9 : ¬ (1 + 2 * (l.length : Int)) < 0 := by omega
      clear hg9 ho9 MK RW3
      obtain ⟨c0, c1, c2, c3⟩ := Y.out.cells
      obtain ⟨d0, d1⟩ := A2.out.x
      obtain ⟨d2, d3⟩ := A3.out.x
      obtain ⟨d4, d5⟩ := A4.out.x
      go_wp2_with fail
      refine (eqreg_any n' m a4 a2 k4 k2 _ (Tics.of_own A4.out.o) (Tics.of_own A2.out.o) (by omega)).mono ?_
      rintro e w10 ⟨rfl, hb10⟩
      clear c0 c1 c2 c3 d0 d1 d2 d3 d4 d5
      have Y := Lib.hid (Y.out.below hb10)
      have A2 := Lib.hid (A2.out.below hb10)
      have A3 := Lib.hid (A3.out.below hb10)
      have A4 := Lib.hid (A4.out.below hb10)
      have HI := Lib.hid (Nat.le_trans HI.out hb10.size)
      clear hb10 hk9
      have MK := Lib.hid (mkreg_any n' _ m 0 w10 A4.out.o (by omega))
      obtain ⟨c0, c1, c2, c3⟩ := Y.out.cells
      obtain ⟨d0, d1⟩ := A2.out.x
      obtain ⟨d2, d3⟩ := A3.out.x
      obtain ⟨d4, d5⟩ := A4.out.x
      go_wp2_with fail
      refine MK.out.mono ?_
      rintro e w11 ⟨rfl, hg11, ho11⟩
      have RW4 := Lib.hid A4.out.rows
      clear c0 c1 c2 c3 d0 d1 d2 d3 d4 d5
      have Y := Lib.hid (Y.out.kept hg11 (fun g hg => by have := RW4.out g hg; have := HO.out; omega))
      have A2 := Lib.hid (A2.out.kept hg11 (fun g hg => by have := RW4.out g hg; have := HO.out; omega))
      have A3 := Lib.hid (A3.out.kept hg11 (fun g hg => by have := RW4.out g hg; have := HO.out; omega))
      have A4 := Lib.hid (A4.out.mark hg11 ho11)
      have HI := Lib.hid (Nat.le_trans HI.out hg11.size)
      have hk9 : ¬ (1 + 2 * (m.length : Int)) < 0 := by omega
      have hk8 : ((1 + 2 * (m.length : Int)) != (1 + 2 * (m.length : Int))) = false := by simp
      clear hg11 ho11 MK RW4
      obtain ⟨c0, c1, c2, c3⟩ := Y.out.cells
      obtain ⟨d0, d1⟩ := A2.out.x
      obtain ⟨d2, d3⟩ := A3.out.x
      obtain ⟨d4, d5⟩ := A4.out.x
      go_wp2_with fail
      refine (hdreg_any n' a4 m.length k4 _ (Tics.of_own A4.out.o) (by omega)).mono ?_
      rintro e w12 ⟨rfl, hb12⟩
      clear c0 c1 c2 c3 d0 d1 d2 d3 d4 d5
      have Y := Lib.hid (Y.out.below hb12)
      have A2 := Lib.hid (A2.out.below hb12)
      have A3 := Lib.hid (A3.out.below hb12)
      have A4 := Lib.hid (A4.out.below hb12)
      have HI := Lib.hid (Nat.le_trans HI.out hb12.size)
      clear hb12
      obtain ⟨c0, c1, c2, c3⟩ := Y.out.cells
      obtain ⟨d0, d1⟩ := A2.out.x
      obtain ⟨d2, d3⟩ := A3.out.x
      obtain ⟨d4, d5⟩ := A4.out.x
      obtain ⟨F, hF⟩ : ∃ F : World → Prop, F = fun W => YS w W n (.slice ra l.length rc) x y ∧ VR W w1.heap.size h2 p2 n' (.slice a2 m.length k2) m ∧ VR W s3 h4 p4 n' (.slice a4 m.length k4) (rmarks m.length) := ⟨_, rfl⟩
      have K : Hid (Kp w12.heap.size F) := Lib.hid (by rw [hF]; exact (Kp.ys Y.out.tr.lt).and ((Kp.vr (by have := HO.out; have := HI.out; omega)).and (Kp.vr HI.out)))
      have FW : Hid (F w12) := Lib.hid (by rw [hF]; exact ⟨Y.out, A2.out, A4.out⟩)
      have HT := Lib.hid (Nat.le_refl w12.heap.size)
      have CE : Hid (∀ W, F W → (fun W => W.cell? ⟨w.heap.size, 0, none⟩ = some (.int .i64 n) ∧ W.cell? ⟨w.heap.size, 1, none⟩ = some (.slice ra l.length rc) ∧ W.cell? ⟨w.heap.size + 1, 0, none⟩ = some (.int .i64 x) ∧ W.cell? ⟨w.heap.size + 1, 1, none⟩ = some (.int .i64 y)) W) := Lib.hid (by rw [hF]; exact fun W h => h.1.cells)
      have FT : Hid (∀ W, F W → Below w.heap.size w W) := Lib.hid (by rw [hF]; exact fun W h => h.1.bel)
      have MN := Lib.hid IMC.out
      have HF := Lib.hid hF
      clear hF Y A2 A3 A4 HI
      go_upto_region 24 with fail
      go_cut [14, 15] (fun sv qv wx => ∃ (p hi : Nat) (v : Value), sv = .pointer (some ⟨p, 0, none⟩) ∧ qv = .bool q ∧ Hid (F wx) ∧ Hid (VR wx w12.heap.size hi p n' v m) ∧ Hid (hi ≤ wx.heap.size))
      case first =>
        have D0 := Lib.hid (K.out.drew FW.out)
        have D0a := Lib.hid (K.out.drew (K.out.alloc FW.out (.cells #[.int .i64 0, .slice none 0 0] 28)))
        have Z0a := Lib.hid (ZV.below (ZV.new (W := w12) (lo := w12.heap.size) (Nat.le_refl _) 28) (Below.refl _ _).drew)
        have HL0 := Lib.hid (Nat.le_refl w12.heap.size)
        have k0 := CE.out _ D0.out
        have k0a := CE.out _ D0a.out
        go_region_held3 (fun W => W.cell? ⟨w.heap.size, 0, none⟩ = some (.int .i64 n) ∧ W.cell? ⟨w.heap.size, 1, none⟩ = some (.slice ra l.length rc) ∧ W.cell? ⟨w.heap.size + 1, 0, none⟩ = some (.int .i64 x) ∧ W.cell? ⟨w.heap.size + 1, 1, none⟩ = some (.int .i64 y)) (with_reducible first | assumption | exact k0 | exact k0a | exact k1 | exact k1a | exact k2 | exact k2a | exact k3 | exact k3a | exact kE)
          ((first
            | (go_at_call 12; (with_reducible refine (TOR.out (w12.alloc (.cells #[.int .i64 0, .slice none 0 0] 28)).drew (FT.out _ D0a.out)).mono ?_); rintro e u1 ⟨b1, c1, rfl, hb1, ho1⟩; have O1 := Lib.hid (OwnTc.zero ho1); have D1 := Lib.hid (K.out.bel D0a.out hb1); have k1 := CE.out _ D1.out; have HL1 : Hid (w12.heap.size ≤ u1.heap.size) := Lib.hid (by have h1 := HL0.out; have h2 := hb1.size; simp at h1 h2 ⊢; omega); have Zc := Lib.hid (Z0a.out.below hb1))
            | (go_at_call 12; (with_reducible refine (TOR.out w12.drew (FT.out _ D0.out)).mono ?_); rintro e u1 ⟨b1, c1, rfl, hb1, ho1⟩; have O1 := Lib.hid (OwnTc.zero ho1); have D1 := Lib.hid (K.out.bel D0.out hb1); have k1 := CE.out _ D1.out; have HL1 : Hid (w12.heap.size ≤ u1.heap.size) := Lib.hid (by have h1 := HL0.out; have h2 := hb1.size; simp at h1 h2 ⊢; omega); have D1a := Lib.hid (K.out.alloc D1.out (.cells #[.int .i64 0, .slice none 0 0] 28)); have k1a := CE.out _ D1a.out; have Z1a := Lib.hid (ZV.new (W := u1) (lo := w12.heap.size) HL1.out 28); have O1a := Lib.hid (O1.out.below ((Below.refl _ _).alloc (Nat.le_refl _) (.cells #[.int .i64 0, .slice none 0 0] 28))))
            | (go_at_call 18; have zq := Zc.out.lo; clear zq; (with_reducible refine (totk_any x y u1).mono ?_); rintro e u2 ⟨rfl, hb2⟩; have D2 := Lib.hid (K.out.bel D1.out hb2); have k2 := CE.out _ D2.out; have HL2 : Hid (w12.heap.size ≤ u2.heap.size) := Lib.hid (by have h1 := HL1.out; have h2 := hb2.size; simp at h1 h2 ⊢; omega); have Zc := Lib.hid (Zc.out.below hb2); have O2 := Lib.hid (OwnTc.below O1.out hb2))
            | (go_at_call 18; (with_reducible refine (totk_any x y (u1.alloc (.cells #[.int .i64 0, .slice none 0 0] 28))).mono ?_); rintro e u2 ⟨rfl, hb2⟩; have D2 := Lib.hid (K.out.bel D1a.out hb2); have k2 := CE.out _ D2.out; have HL2 : Hid (w12.heap.size ≤ u2.heap.size) := Lib.hid (by have h1 := HL1.out; have h2 := hb2.size; simp at h1 h2 ⊢; omega); have Zc := Lib.hid (Z1a.out.below hb2); have O2 := Lib.hid (OwnTc.below O1a.out hb2))
            | (go_at_call 18; (with_reducible refine (totk_any x y u1).mono ?_); rintro e u2 ⟨rfl, hb2⟩; have D2 := Lib.hid (K.out.bel D1.out hb2); have k2 := CE.out _ D2.out; have HL2 : Hid (w12.heap.size ≤ u2.heap.size) := Lib.hid (by have h1 := HL1.out; have h2 := hb2.size; simp at h1 h2 ⊢; omega); have D2a := Lib.hid (K.out.alloc D2.out (.cells #[.int .i64 0, .slice none 0 0] 28)); have k2a := CE.out _ D2a.out; have Z2a := Lib.hid (ZV.new (W := u2) (lo := w12.heap.size) HL2.out 28); have O2 := Lib.hid (OwnTc.below O1.out hb2); have O2a := Lib.hid (O2.out.below ((Below.refl _ _).alloc (Nat.le_refl _) (.cells #[.int .i64 0, .slice none 0 0] 28))))
            | (go_at_call 19; have zq := Zc.out.lo; clear zq; (with_reducible refine (MN.out u2 _ (Tcs.of_own O2.out) (by simp [Value.ownBlock])).mono ?_); rintro e u3 ⟨vv, rfl, ho, hb3⟩; have HO := Lib.hid ho; obtain ⟨aa, kk, rfl⟩ := OwnTc.shape ho; have D3 := Lib.hid (K.out.bel D2.out hb3); have k3 := CE.out _ D3.out; have HL3 : Hid (w12.heap.size ≤ u3.heap.size) := Lib.hid (by have h1 := HL2.out; have h2 := hb3.size; simp at h1 h2 ⊢; omega); have Zn := Lib.hid (Zc.out.below hb3); have F2 := Lib.hid (VR.store (n := n') Zn.out HO.out Zc.out.x.lt (by have h1 := HL2.out; simp at h1 ⊢; omega)); have F1 := Lib.hid (K.out.far 1 (.slice aa m.length kk) (K.out.far 0 (.int .i64 n') D3.out (Nat.le_trans HT.out Zn.out.lo)) (Nat.le_trans HT.out Zn.out.lo)); have kE := CE.out _ F1.out; have z0 := Zn.out.x.c0; have z1 := Zn.out.x.c1; have f0 := Zn.out.f 0; have f1 := Zn.out.f 1; have HI := Lib.hid (Zn.out.size (.int .i64 n') (.slice aa m.length kk)))
            | (go_at_call 19; (with_reducible refine (MN.out (u2.alloc (.cells #[.int .i64 0, .slice none 0 0] 28)) _ (Tcs.of_own O2a.out) (by simp [Value.ownBlock])).mono ?_); rintro e u3 ⟨vv, rfl, ho, hb3⟩; have HO := Lib.hid ho; obtain ⟨aa, kk, rfl⟩ := OwnTc.shape ho; have D3 := Lib.hid (K.out.bel D2a.out hb3); have k3 := CE.out _ D3.out; have HL3 : Hid (w12.heap.size ≤ u3.heap.size) := Lib.hid (by have h1 := HL2.out; have h2 := hb3.size; simp at h1 h2 ⊢; omega); have Zn := Lib.hid (Z2a.out.below hb3); have F2 := Lib.hid (VR.store (n := n') Zn.out HO.out Z2a.out.x.lt (by have h1 := HL2.out; simp at h1 ⊢; omega)); have F1 := Lib.hid (K.out.far 1 (.slice aa m.length kk) (K.out.far 0 (.int .i64 n') D3.out (Nat.le_trans HT.out Zn.out.lo)) (Nat.le_trans HT.out Zn.out.lo)); have kE := CE.out _ F1.out; have z0 := Zn.out.x.c0; have z1 := Zn.out.x.c1; have f0 := Zn.out.f 0; have f1 := Zn.out.f 1; have HI := Lib.hid (Zn.out.size (.int .i64 n') (.slice aa m.length kk)))
            | (go_at_call 19; (with_reducible refine (MN.out u2 _ (Tcs.of_own O2.out) (by simp [Value.ownBlock])).mono ?_); rintro e u3 ⟨vv, rfl, ho, hb3⟩; have HO := Lib.hid ho; obtain ⟨aa, kk, rfl⟩ := OwnTc.shape ho; have D3 := Lib.hid (K.out.bel D2.out hb3); have k3 := CE.out _ D3.out; have HL3 : Hid (w12.heap.size ≤ u3.heap.size) := Lib.hid (by have h1 := HL2.out; have h2 := hb3.size; simp at h1 h2 ⊢; omega); have F2 := Lib.hid (VR.make (n := n') (lo := w12.heap.size) HO.out (by have h1 := HL2.out; simp at h1 ⊢; omega) HL3.out 28); have F1 := Lib.hid (K.out.alloc D3.out (.cells #[.int .i64 n', .slice aa m.length kk] 28)); have kE := CE.out _ F1.out; have k3a := CE.out _ (K.out.alloc D3.out (.cells #[.int .i64 0, .slice none 0 0] 28)); have HI := Lib.hid (show u3.heap.size + 1 ≤ (u3.alloc (.cells #[.int .i64 n', .slice aa m.length kk] 28)).heap.size by simp))))
        all_goals
          go_wp2_with fail
          go_meet
          exact ⟨_, _, _, rfl, rfl, F1, F2, HI⟩
      case rest =>
        obtain ⟨p5, h5, v5, rfl, rfl, FC, A5, HI5⟩ := hcut
        obtain ⟨a5, k5, rfl⟩ := OwnTc.shape A5.out.o
        have Q := Lib.hid (show YS w wc n (.slice ra l.length rc) x y ∧ VR wc w1.heap.size h2 p2 n' (.slice a2 m.length k2) m ∧ VR wc s3 h4 p4 n' (.slice a4 m.length k4) (rmarks m.length) by have k := FC.out; rw [HF.out] at k; exact k)
        have Y := Lib.hid Q.out.1
        have A2 := Lib.hid Q.out.2.1
        have A4 := Lib.hid Q.out.2.2
        clear K FW HT CE FT MN FC HF Q c0 c1 c2 c3 d0 d1 d2 d3 d4 d5
        obtain ⟨d0, d1⟩ := A2.out.x
        obtain ⟨d2, d3⟩ := A5.out.x
        go_wp2_with fail
        refine (eqreg_any n' m a5 a2 k5 k2 _ (Tics.of_own A5.out.o) (Tics.of_own A2.out.o) (by omega)).mono ?_
        rintro e w15 ⟨rfl, hb15⟩
        have Y := Lib.hid (Y.out.below hb15)
        have A4 := Lib.hid (A4.out.below hb15)
        clear hb15 d0 d1 d2 d3 A2 A5
        obtain ⟨d0, d1⟩ := A4.out.x
        go_wp2_with fail
        refine (hdreg_any n' a4 m.length k4 _ (Tics.of_own A4.out.o) (by omega)).mono ?_
        rintro e w16 ⟨rfl, hb16⟩
        have Y := Lib.hid (Y.out.below hb16)
        clear hb16 d0 d1
        go_wp2_with fail
        go_ret
        exact ⟨rfl, Y.out.bel⟩

end Go.Proofs.Ytlhjhdlpejpooab
