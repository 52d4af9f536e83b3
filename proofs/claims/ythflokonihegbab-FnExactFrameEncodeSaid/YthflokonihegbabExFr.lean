/- FnExactFrameValid, FnExactFrameEncode, FnExactFrameEliciting. -/
import Derived.Test.YthflokonihegbabEqF
import Derived.Test.YthflokonihegbabToF
import Derived.Test.YthflokonihegbabIC
import Derived.Test.YthflokonihegbabSFel
namespace Go.Proofs.Ythflokonihegbab
open Go.RowKit
set_option linter.unusedVariables false
set_option linter.unusedSimpArgs false

theorem szF_neg (f : Fr) : szF f 1048576 < 0 ∨ (¬ szF f 1048576 < 0 ∧ f.rs.length ≤ 1048576 ∧ f.d.size ≤ 1048576) := by
  unfold szF
  split
  · exact .inl (by omega)
  · split
    · exact .inl (by omega)
    · exact .inr ⟨by omega, by omega, by omega⟩
/-- Twelve cells of two blocks stay. -/
def Two (w : World) (b0 b1 : Nat) (vs0 vs1 : List Value) : Prop := Frm w b0 vs0 ∧ Frm w b1 vs1 ∧ b0 < w.heap.size ∧ b1 < w.heap.size
theorem Two.below {w w' : World} {b0 b1 : Nat} {vs0 vs1 : List Value} (h : Two w b0 b1 vs0 vs1) (hb : Below w.heap.size w w') : Two w' b0 b1 vs0 vs1 := by
  obtain ⟨h1, h2, h3, h4⟩ := h
  have := hb.size
  exact ⟨h1.below hb h3, h2.below hb h4, by omega, by omega⟩
theorem Two.cells {w : World} {b0 b1 : Nat} {u0 u1 u2 u3 u4 u5 v0 v1 v2 v3 v4 v5 : Value} (h : Two w b0 b1 [u0, u1, u2, u3, u4, u5] [v0, v1, v2, v3, v4, v5]) : w.cell? ⟨b0, 0, none⟩ = some (u0) ∧ w.cell? ⟨b0, 1, none⟩ = some (u1) ∧ w.cell? ⟨b0, 2, none⟩ = some (u2) ∧ w.cell? ⟨b0, 3, none⟩ = some (u3) ∧ w.cell? ⟨b0, 4, none⟩ = some (u4) ∧ w.cell? ⟨b0, 5, none⟩ = some (u5) ∧ w.cell? ⟨b1, 0, none⟩ = some (v0) ∧ w.cell? ⟨b1, 1, none⟩ = some (v1) ∧ w.cell? ⟨b1, 2, none⟩ = some (v2) ∧ w.cell? ⟨b1, 3, none⟩ = some (v3) ∧ w.cell? ⟨b1, 4, none⟩ = some (v4) ∧ w.cell? ⟨b1, 5, none⟩ = some (v5) := ⟨h.1 0, h.1 1, h.1 2, h.1 3, h.1 4, h.1 5, h.2.1 0, h.2.1 1, h.2.1 2, h.2.1 3, h.2.1 4, h.2.1 5⟩

set_option maxRecDepth 100000 in
set_option maxHeartbeats 2000000 in
theorem exfv_walk (f : Fr) (ra : Option Addr) (rc : Nat) (w : World) (hl : f.rs.length ≤ 9223372036854775807) (hd : f.d.size ≤ maxLen) (h : Rngs w (.slice ra f.rs.length rc) f.rs) :
    Calls Try.prog 3 #[frV f (.slice ra f.rs.length rc)] w fun e w' => e = .returned (.bool true) ∧ Below w.heap.size w w' := by
  have H := Lib.hid h
  clear h
  have HSZ := Lib.hid (fun W => szfr_any f ra rc 1048576 W (by omega) (by omega) hl hd)
  have hneg := szF_neg f
  obtain ⟨z, hz⟩ : ∃ z, szF f 1048576 = z := ⟨_, rfl⟩
  rw [hz] at HSZ hneg
  clear hz
  have FN0 := Lib.hid (Frm.new w 24 [.int .i64 f.k, .int .i64 f.a, .int .i64 f.b, .int .i64 f.c, .string f.d, .slice ra f.rs.length rc])
  have B0 : Hid (Below w.heap.size w (w.alloc (.cells #[.int .i64 f.k, .int .i64 f.a, .int .i64 f.b, .int .i64 f.c, .string f.d, .slice ra f.rs.length rc] 24))) := Lib.hid ((Below.refl _ _).alloc (Nat.le_refl _) _)
  have z0 : (w.alloc (.cells #[.int .i64 f.k, .int .i64 f.a, .int .i64 f.b, .int .i64 f.c, .string f.d, .slice ra f.rs.length rc] 24)).heap.size = w.heap.size + 1 := by simp
  rcases hneg with hneg | ⟨hneg, hl2, hd2⟩
  · unfold frV at HSZ ⊢
    go_enter Try.func3, Try.ntmps3
    go_wp2_with fail
    refine (HSZ.out _).mono ?_
    rintro e w1 ⟨rfl, hb1⟩
    have HB1 := Lib.hid (B0.out.trans (hb1.mono B0.out.size))
    clear hb1
    go_wp2_with fail
    go_ret
    exact ⟨rfl, HB1.out⟩
  have HTO := Lib.hid (fun W h => tofr_any f ra rc W h hl2)
  have HSP := Lib.hid (fun W a c h => sfok_any f (.slice a f.rs.length c) W h hl2 (by omega))
  have HIM := Lib.hid (fun W a c h => ifok_any f (.slice a f.rs.length c) W h hl2 (by omega))
  have HEQ := Lib.hid (fun W v v' h h' => eqfr_any f f v v' W h h' hl2 hl2)
  rw [frEq_iff.2 rfl] at HEQ
  obtain ⟨q, hq⟩ : ∃ q, fok f = q := ⟨_, rfl⟩
  rw [hq] at HSP HIM
  clear hq
  unfold frV at HSZ HTO HSP HIM HEQ ⊢
  go_enter Try.func3, Try.ntmps3
  go_wp2_with fail
  refine (HSZ.out _).mono ?_
  rintro e w1 ⟨rfl, hb1⟩
  have HB1 := Lib.hid (B0.out.trans (hb1.mono B0.out.size))
  have FN1 := Frm.below FN0.out hb1 (by omega)
  have FN1h := Lib.hid FN1
  have hs1 : w.heap.size < w1.heap.size := by have := hb1.size; omega
  obtain ⟨p0, p1, p2, p3, p4, p5⟩ : w1.cell? ⟨w.heap.size, 0, none⟩ = some (.int .i64 f.k) ∧ w1.cell? ⟨w.heap.size, 1, none⟩ = some (.int .i64 f.a) ∧ w1.cell? ⟨w.heap.size, 2, none⟩ = some (.int .i64 f.b) ∧ w1.cell? ⟨w.heap.size, 3, none⟩ = some (.int .i64 f.c) ∧ w1.cell? ⟨w.heap.size, 4, none⟩ = some (.string f.d) ∧ w1.cell? ⟨w.heap.size, 5, none⟩ = some (.slice ra f.rs.length rc) := ⟨FN1 0, FN1 1, FN1 2, FN1 3, FN1 4, FN1 5⟩
  clear hb1 FN1
  go_wp2_with fail
  refine (HTO.out _ (H.out.below HB1.out)).mono ?_
  rintro e w2 ⟨a1, c1, rfl, hb2, ho2⟩
  have HB2 := Lib.hid (HB1.out.trans (hb2.mono HB1.out.size))
  have FN2 := Frm.below FN1h.out hb2 hs1
  have FN2h := Lib.hid FN2
  have hs2 : w.heap.size < w2.heap.size := by have := hb2.size; omega
  have HO2 := Lib.hid ho2
  clear hb2 ho2 FN2 p0 p1 p2 p3 p4 p5
  go_wp2_with fail
  refine (HSP.out _ _ _ (Rngs.of_own HO2.out)).mono ?_
  rintro e w3 ⟨rfl, hb3⟩
  have HB3 := Lib.hid (HB2.out.trans (hb3.mono HB2.out.size))
  have FN3 := Frm.below FN2h.out hb3 hs2
  have FN3h := Lib.hid FN3
  have hs3 : w.heap.size < w3.heap.size := by have := hb3.size; omega
  obtain ⟨p0, p1, p2, p3, p4, p5⟩ : w3.cell? ⟨w.heap.size, 0, none⟩ = some (.int .i64 f.k) ∧ w3.cell? ⟨w.heap.size, 1, none⟩ = some (.int .i64 f.a) ∧ w3.cell? ⟨w.heap.size, 2, none⟩ = some (.int .i64 f.b) ∧ w3.cell? ⟨w.heap.size, 3, none⟩ = some (.int .i64 f.c) ∧ w3.cell? ⟨w.heap.size, 4, none⟩ = some (.string f.d) ∧ w3.cell? ⟨w.heap.size, 5, none⟩ = some (.slice ra f.rs.length rc) := ⟨FN3 0, FN3 1, FN3 2, FN3 3, FN3 4, FN3 5⟩
  clear hb3 FN3
  go_wp2_with fail
  refine (HTO.out _ (H.out.below HB3.out)).mono ?_
  rintro e w4 ⟨a2, c2, rfl, hb4, ho4⟩
  have HB4 := Lib.hid (HB3.out.trans (hb4.mono HB3.out.size))
  have FN4 := Lib.hid (Frm.below FN3h.out hb4 hs3)
  have hs4 : w.heap.size < w4.heap.size := by have := hb4.size; omega
  have BX : Hid (Below w4.heap.size w4 (w4.alloc (.cells #[.int .i64 f.k, .int .i64 f.a, .int .i64 f.b, .int .i64 f.c, .string f.d, .slice a2 f.rs.length c2] 29))) := Lib.hid ((Below.refl _ _).alloc (Nat.le_refl _) _)
  have TW : Hid (Two (w4.alloc (.cells #[.int .i64 f.k, .int .i64 f.a, .int .i64 f.b, .int .i64 f.c, .string f.d, .slice a2 f.rs.length c2] 29)) w.heap.size w4.heap.size [.int .i64 f.k, .int .i64 f.a, .int .i64 f.b, .int .i64 f.c, .string f.d, .slice ra f.rs.length rc] [.int .i64 f.k, .int .i64 f.a, .int .i64 f.b, .int .i64 f.c, .string f.d, .slice a2 f.rs.length c2]) := Lib.hid ⟨Frm.below FN4.out BX.out hs4, Frm.new w4 29 _, by simp; omega, by simp⟩
  have HO4 : Hid (OwnRg (w4.alloc (.cells #[.int .i64 f.k, .int .i64 f.a, .int .i64 f.b, .int .i64 f.c, .string f.d, .slice a2 f.rs.length c2] 29)) w3.heap.size (.slice a2 f.rs.length c2) f.rs) := Lib.hid (World.ownsRow.alloc ho4 _)
  have HB5 : Hid (Below w.heap.size w (w4.alloc (.cells #[.int .i64 f.k, .int .i64 f.a, .int .i64 f.b, .int .i64 f.c, .string f.d, .slice a2 f.rs.length c2] 29))) := Lib.hid (HB4.out.trans (BX.out.mono HB4.out.size))
  clear hb4 ho4 p0 p1 p2 p3 p4 p5
  go_wp2_with fail
  generalize (w4.alloc (.cells #[.int .i64 f.k, .int .i64 f.a, .int .i64 f.b, .int .i64 f.c, .string f.d, .slice a2 f.rs.length c2] 29)) = W5 at *
  refine (HIM.out _ _ _ (Rngs.of_own HO4.out)).mono ?_
  rintro e w6 ⟨rfl, hb6⟩
  have TW6 := Lib.hid (TW.out.below hb6)
  have HO6 := Lib.hid (own_below HO4.out hb6)
  have HB6 : Hid (Below w.heap.size w w6.drew) := Lib.hid ((HB5.out.trans (hb6.mono HB5.out.size)).drew)
  have HR6 : Hid (Rngs w6.drew (.slice a2 f.rs.length c2) f.rs) := Lib.hid ((Rngs.of_own HO6.out).below (Below.refl _ _).drew)
  clear hb6
  have D6 : Hid (w6.drew.cell? ⟨w.heap.size, 0, none⟩ = some (.int .i64 f.k) ∧ w6.drew.cell? ⟨w.heap.size, 1, none⟩ = some (.int .i64 f.a) ∧ w6.drew.cell? ⟨w.heap.size, 2, none⟩ = some (.int .i64 f.b) ∧ w6.drew.cell? ⟨w.heap.size, 3, none⟩ = some (.int .i64 f.c) ∧ w6.drew.cell? ⟨w.heap.size, 4, none⟩ = some (.string f.d) ∧ w6.drew.cell? ⟨w.heap.size, 5, none⟩ = some (.slice ra f.rs.length rc) ∧ w6.drew.cell? ⟨w4.heap.size, 0, none⟩ = some (.int .i64 f.k) ∧ w6.drew.cell? ⟨w4.heap.size, 1, none⟩ = some (.int .i64 f.a) ∧ w6.drew.cell? ⟨w4.heap.size, 2, none⟩ = some (.int .i64 f.b) ∧ w6.drew.cell? ⟨w4.heap.size, 3, none⟩ = some (.int .i64 f.c) ∧ w6.drew.cell? ⟨w4.heap.size, 4, none⟩ = some (.string f.d) ∧ w6.drew.cell? ⟨w4.heap.size, 5, none⟩ = some (.slice a2 f.rs.length c2)) := Lib.hid TW6.out.cells
  obtain ⟨p0, p1, p2, p3, p4, p5, x0, x1, x2, x3, x4, x5⟩ := D6.out
  go_wp2_with fail
  go_region_held3 (fun w' => w'.cell? ⟨w.heap.size, 0, none⟩ = some (.int .i64 f.k) ∧ w'.cell? ⟨w.heap.size, 1, none⟩ = some (.int .i64 f.a) ∧ w'.cell? ⟨w.heap.size, 2, none⟩ = some (.int .i64 f.b) ∧ w'.cell? ⟨w.heap.size, 3, none⟩ = some (.int .i64 f.c) ∧ w'.cell? ⟨w.heap.size, 4, none⟩ = some (.string f.d) ∧ w'.cell? ⟨w.heap.size, 5, none⟩ = some (.slice ra f.rs.length rc) ∧ w'.cell? ⟨w4.heap.size, 0, none⟩ = some (.int .i64 f.k) ∧ w'.cell? ⟨w4.heap.size, 1, none⟩ = some (.int .i64 f.a) ∧ w'.cell? ⟨w4.heap.size, 2, none⟩ = some (.int .i64 f.b) ∧ w'.cell? ⟨w4.heap.size, 3, none⟩ = some (.int .i64 f.c) ∧ w'.cell? ⟨w4.heap.size, 4, none⟩ = some (.string f.d) ∧ w'.cell? ⟨w4.heap.size, 5, none⟩ = some (.slice a2 f.rs.length c2)) (with_reducible first | assumption | exact D6.out | exact k7 | exact k8)
    (first
      | (go_at_call 11; refine (HTO.out _ (H.out.below HB6.out)).mono ?_; rintro e w7 ⟨a3, c3, rfl, hb7, ho7⟩; have tw7 := Two.below (w := w6.drew) ⟨TW6.out.1, TW6.out.2.1, TW6.out.2.2.1, TW6.out.2.2.2⟩ hb7; have k7 : w7.cell? ⟨w.heap.size, 0, none⟩ = some (.int .i64 f.k) ∧ w7.cell? ⟨w.heap.size, 1, none⟩ = some (.int .i64 f.a) ∧ w7.cell? ⟨w.heap.size, 2, none⟩ = some (.int .i64 f.b) ∧ w7.cell? ⟨w.heap.size, 3, none⟩ = some (.int .i64 f.c) ∧ w7.cell? ⟨w.heap.size, 4, none⟩ = some (.string f.d) ∧ w7.cell? ⟨w.heap.size, 5, none⟩ = some (.slice ra f.rs.length rc) ∧ w7.cell? ⟨w4.heap.size, 0, none⟩ = some (.int .i64 f.k) ∧ w7.cell? ⟨w4.heap.size, 1, none⟩ = some (.int .i64 f.a) ∧ w7.cell? ⟨w4.heap.size, 2, none⟩ = some (.int .i64 f.b) ∧ w7.cell? ⟨w4.heap.size, 3, none⟩ = some (.int .i64 f.c) ∧ w7.cell? ⟨w4.heap.size, 4, none⟩ = some (.string f.d) ∧ w7.cell? ⟨w4.heap.size, 5, none⟩ = some (.slice a2 f.rs.length c2) := tw7.cells)
      | (go_at_call 13; refine (HEQ.out _ _ _ (HR6.out.below hb7) (Rngs.of_own ho7)).mono ?_; rintro e w8 ⟨rfl, hb8⟩; have k8 : w8.cell? ⟨w.heap.size, 0, none⟩ = some (.int .i64 f.k) ∧ w8.cell? ⟨w.heap.size, 1, none⟩ = some (.int .i64 f.a) ∧ w8.cell? ⟨w.heap.size, 2, none⟩ = some (.int .i64 f.b) ∧ w8.cell? ⟨w.heap.size, 3, none⟩ = some (.int .i64 f.c) ∧ w8.cell? ⟨w.heap.size, 4, none⟩ = some (.string f.d) ∧ w8.cell? ⟨w.heap.size, 5, none⟩ = some (.slice ra f.rs.length rc) ∧ w8.cell? ⟨w4.heap.size, 0, none⟩ = some (.int .i64 f.k) ∧ w8.cell? ⟨w4.heap.size, 1, none⟩ = some (.int .i64 f.a) ∧ w8.cell? ⟨w4.heap.size, 2, none⟩ = some (.int .i64 f.b) ∧ w8.cell? ⟨w4.heap.size, 3, none⟩ = some (.int .i64 f.c) ∧ w8.cell? ⟨w4.heap.size, 4, none⟩ = some (.string f.d) ∧ w8.cell? ⟨w4.heap.size, 5, none⟩ = some (.slice a2 f.rs.length c2) := (tw7.below hb8).cells))
  have HB8 := Lib.hid (HB6.out.trans ((hb7.trans (hb8.mono hb7.size)).mono HB6.out.size))
  clear hb7 hb8 k7 k8 tw7 ho7
  go_wp2_with fail
  go_ret
  exact ⟨rfl, HB8.out⟩

set_option maxRecDepth 100000 in
set_option maxHeartbeats 2000000 in
theorem exfe_walk (f : Fr) (ra : Option Addr) (rc : Nat) (w : World) (hl : f.rs.length ≤ 9223372036854775807) (hd : f.d.size ≤ maxLen) (h : Rngs w (.slice ra f.rs.length rc) f.rs) :
    Calls Try.prog 4 #[frV f (.slice ra f.rs.length rc)] w fun e w' => e = .returned (.bool true) ∧ Below w.heap.size w w' := by
  have H := Lib.hid h
  clear h
  have HSZ := Lib.hid (fun W => szfr_any f ra rc 1048576 W (by omega) (by omega) hl hd)
  have hneg := szF_neg f
  obtain ⟨z, hz⟩ : ∃ z, szF f 1048576 = z := ⟨_, rfl⟩
  rw [hz] at HSZ hneg
  clear hz
  have FN0 := Lib.hid (Frm.new w 24 [.int .i64 f.k, .int .i64 f.a, .int .i64 f.b, .int .i64 f.c, .string f.d, .slice ra f.rs.length rc])
  have B0 : Hid (Below w.heap.size w (w.alloc (.cells #[.int .i64 f.k, .int .i64 f.a, .int .i64 f.b, .int .i64 f.c, .string f.d, .slice ra f.rs.length rc] 24))) := Lib.hid ((Below.refl _ _).alloc (Nat.le_refl _) _)
  have z0 : (w.alloc (.cells #[.int .i64 f.k, .int .i64 f.a, .int .i64 f.b, .int .i64 f.c, .string f.d, .slice ra f.rs.length rc] 24)).heap.size = w.heap.size + 1 := by simp
  rcases hneg with hneg | ⟨hneg, hl2, hd2⟩
  · unfold frV at HSZ ⊢
    go_enter Try.func4, Try.ntmps4
    go_wp2_with fail
    refine (HSZ.out _).mono ?_
    rintro e w1 ⟨rfl, hb1⟩
    have HB1 := Lib.hid (B0.out.trans (hb1.mono B0.out.size))
    clear hb1
    go_wp2_with fail
    go_ret
    exact ⟨rfl, HB1.out⟩
  have HTO := Lib.hid (fun W h => tofr_any f ra rc W h hl2)
  have HSP := Lib.hid (fun W a c h => sfenc_any f (.slice a f.rs.length c) W h hl2 (by omega))
  have HIM := Lib.hid (fun W a c h => ifenc_any f (.slice a f.rs.length c) W h hl2 (by omega))
  have HEQ := Lib.hid (fun W v v' h h' => eqfr_any f f v v' W h h' hl2 hl2)
  rw [frEq_iff.2 rfl] at HEQ
  obtain ⟨q, hq⟩ : ∃ q, fencS f = q := ⟨_, rfl⟩
  rw [hq] at HSP HIM
  clear hq
  unfold frV at HSZ HTO HSP HIM HEQ ⊢
  go_enter Try.func4, Try.ntmps4
  go_wp2_with fail
  refine (HSZ.out _).mono ?_
  rintro e w1 ⟨rfl, hb1⟩
  have HB1 := Lib.hid (B0.out.trans (hb1.mono B0.out.size))
  have FN1 := Frm.below FN0.out hb1 (by omega)
  have FN1h := Lib.hid FN1
  have hs1 : w.heap.size < w1.heap.size := by have := hb1.size; omega
  obtain ⟨p0, p1, p2, p3, p4, p5⟩ : w1.cell? ⟨w.heap.size, 0, none⟩ = some (.int .i64 f.k) ∧ w1.cell? ⟨w.heap.size, 1, none⟩ = some (.int .i64 f.a) ∧ w1.cell? ⟨w.heap.size, 2, none⟩ = some (.int .i64 f.b) ∧ w1.cell? ⟨w.heap.size, 3, none⟩ = some (.int .i64 f.c) ∧ w1.cell? ⟨w.heap.size, 4, none⟩ = some (.string f.d) ∧ w1.cell? ⟨w.heap.size, 5, none⟩ = some (.slice ra f.rs.length rc) := ⟨FN1 0, FN1 1, FN1 2, FN1 3, FN1 4, FN1 5⟩
  clear hb1 FN1
  go_wp2_with fail
  refine (HTO.out _ (H.out.below HB1.out)).mono ?_
  rintro e w2 ⟨a1, c1, rfl, hb2, ho2⟩
  have HB2 := Lib.hid (HB1.out.trans (hb2.mono HB1.out.size))
  have FN2 := Frm.below FN1h.out hb2 hs1
  have FN2h := Lib.hid FN2
  have hs2 : w.heap.size < w2.heap.size := by have := hb2.size; omega
  have HO2 := Lib.hid ho2
  clear hb2 ho2 FN2 p0 p1 p2 p3 p4 p5
  go_wp2_with fail
  refine (HSP.out _ _ _ (Rngs.of_own HO2.out)).mono ?_
  rintro e w3 ⟨rfl, hb3⟩
  have HB3 := Lib.hid (HB2.out.trans (hb3.mono HB2.out.size))
  have FN3 := Frm.below FN2h.out hb3 hs2
  have FN3h := Lib.hid FN3
  have hs3 : w.heap.size < w3.heap.size := by have := hb3.size; omega
  obtain ⟨p0, p1, p2, p3, p4, p5⟩ : w3.cell? ⟨w.heap.size, 0, none⟩ = some (.int .i64 f.k) ∧ w3.cell? ⟨w.heap.size, 1, none⟩ = some (.int .i64 f.a) ∧ w3.cell? ⟨w.heap.size, 2, none⟩ = some (.int .i64 f.b) ∧ w3.cell? ⟨w.heap.size, 3, none⟩ = some (.int .i64 f.c) ∧ w3.cell? ⟨w.heap.size, 4, none⟩ = some (.string f.d) ∧ w3.cell? ⟨w.heap.size, 5, none⟩ = some (.slice ra f.rs.length rc) := ⟨FN3 0, FN3 1, FN3 2, FN3 3, FN3 4, FN3 5⟩
  clear hb3 FN3
  go_wp2_with fail
  refine (HTO.out _ (H.out.below HB3.out)).mono ?_
  rintro e w4 ⟨a2, c2, rfl, hb4, ho4⟩
  have HB4 := Lib.hid (HB3.out.trans (hb4.mono HB3.out.size))
  have FN4 := Lib.hid (Frm.below FN3h.out hb4 hs3)
  have hs4 : w.heap.size < w4.heap.size := by have := hb4.size; omega
  have BX : Hid (Below w4.heap.size w4 (w4.alloc (.cells #[.int .i64 f.k, .int .i64 f.a, .int .i64 f.b, .int .i64 f.c, .string f.d, .slice a2 f.rs.length c2] 29))) := Lib.hid ((Below.refl _ _).alloc (Nat.le_refl _) _)
  have TW : Hid (Two (w4.alloc (.cells #[.int .i64 f.k, .int .i64 f.a, .int .i64 f.b, .int .i64 f.c, .string f.d, .slice a2 f.rs.length c2] 29)) w.heap.size w4.heap.size [.int .i64 f.k, .int .i64 f.a, .int .i64 f.b, .int .i64 f.c, .string f.d, .slice ra f.rs.length rc] [.int .i64 f.k, .int .i64 f.a, .int .i64 f.b, .int .i64 f.c, .string f.d, .slice a2 f.rs.length c2]) := Lib.hid ⟨Frm.below FN4.out BX.out hs4, Frm.new w4 29 _, by simp; omega, by simp⟩
  have HO4 : Hid (OwnRg (w4.alloc (.cells #[.int .i64 f.k, .int .i64 f.a, .int .i64 f.b, .int .i64 f.c, .string f.d, .slice a2 f.rs.length c2] 29)) w3.heap.size (.slice a2 f.rs.length c2) f.rs) := Lib.hid (World.ownsRow.alloc ho4 _)
  have HB5 : Hid (Below w.heap.size w (w4.alloc (.cells #[.int .i64 f.k, .int .i64 f.a, .int .i64 f.b, .int .i64 f.c, .string f.d, .slice a2 f.rs.length c2] 29))) := Lib.hid (HB4.out.trans (BX.out.mono HB4.out.size))
  clear hb4 ho4 p0 p1 p2 p3 p4 p5
  go_wp2_with fail
  generalize (w4.alloc (.cells #[.int .i64 f.k, .int .i64 f.a, .int .i64 f.b, .int .i64 f.c, .string f.d, .slice a2 f.rs.length c2] 29)) = W5 at *
  refine (HIM.out _ _ _ (Rngs.of_own HO4.out)).mono ?_
  rintro e w6 ⟨rfl, hb6⟩
  have TW6 := Lib.hid (TW.out.below hb6)
  have HO6 := Lib.hid (own_below HO4.out hb6)
  have HB6 : Hid (Below w.heap.size w w6.drew) := Lib.hid ((HB5.out.trans (hb6.mono HB5.out.size)).drew)
  have HR6 : Hid (Rngs w6.drew (.slice a2 f.rs.length c2) f.rs) := Lib.hid ((Rngs.of_own HO6.out).below (Below.refl _ _).drew)
  clear hb6
  have D6 : Hid (w6.drew.cell? ⟨w.heap.size, 0, none⟩ = some (.int .i64 f.k) ∧ w6.drew.cell? ⟨w.heap.size, 1, none⟩ = some (.int .i64 f.a) ∧ w6.drew.cell? ⟨w.heap.size, 2, none⟩ = some (.int .i64 f.b) ∧ w6.drew.cell? ⟨w.heap.size, 3, none⟩ = some (.int .i64 f.c) ∧ w6.drew.cell? ⟨w.heap.size, 4, none⟩ = some (.string f.d) ∧ w6.drew.cell? ⟨w.heap.size, 5, none⟩ = some (.slice ra f.rs.length rc) ∧ w6.drew.cell? ⟨w4.heap.size, 0, none⟩ = some (.int .i64 f.k) ∧ w6.drew.cell? ⟨w4.heap.size, 1, none⟩ = some (.int .i64 f.a) ∧ w6.drew.cell? ⟨w4.heap.size, 2, none⟩ = some (.int .i64 f.b) ∧ w6.drew.cell? ⟨w4.heap.size, 3, none⟩ = some (.int .i64 f.c) ∧ w6.drew.cell? ⟨w4.heap.size, 4, none⟩ = some (.string f.d) ∧ w6.drew.cell? ⟨w4.heap.size, 5, none⟩ = some (.slice a2 f.rs.length c2)) := Lib.hid TW6.out.cells
  obtain ⟨p0, p1, p2, p3, p4, p5, x0, x1, x2, x3, x4, x5⟩ := D6.out
  go_wp2_with fail
  go_region_held3 (fun w' => w'.cell? ⟨w.heap.size, 0, none⟩ = some (.int .i64 f.k) ∧ w'.cell? ⟨w.heap.size, 1, none⟩ = some (.int .i64 f.a) ∧ w'.cell? ⟨w.heap.size, 2, none⟩ = some (.int .i64 f.b) ∧ w'.cell? ⟨w.heap.size, 3, none⟩ = some (.int .i64 f.c) ∧ w'.cell? ⟨w.heap.size, 4, none⟩ = some (.string f.d) ∧ w'.cell? ⟨w.heap.size, 5, none⟩ = some (.slice ra f.rs.length rc) ∧ w'.cell? ⟨w4.heap.size, 0, none⟩ = some (.int .i64 f.k) ∧ w'.cell? ⟨w4.heap.size, 1, none⟩ = some (.int .i64 f.a) ∧ w'.cell? ⟨w4.heap.size, 2, none⟩ = some (.int .i64 f.b) ∧ w'.cell? ⟨w4.heap.size, 3, none⟩ = some (.int .i64 f.c) ∧ w'.cell? ⟨w4.heap.size, 4, none⟩ = some (.string f.d) ∧ w'.cell? ⟨w4.heap.size, 5, none⟩ = some (.slice a2 f.rs.length c2)) (with_reducible first | assumption | exact D6.out | exact k7 | exact k8)
    (first
      | (go_at_call 11; refine (HTO.out _ (H.out.below HB6.out)).mono ?_; rintro e w7 ⟨a3, c3, rfl, hb7, ho7⟩; have tw7 := Two.below (w := w6.drew) ⟨TW6.out.1, TW6.out.2.1, TW6.out.2.2.1, TW6.out.2.2.2⟩ hb7; have k7 : w7.cell? ⟨w.heap.size, 0, none⟩ = some (.int .i64 f.k) ∧ w7.cell? ⟨w.heap.size, 1, none⟩ = some (.int .i64 f.a) ∧ w7.cell? ⟨w.heap.size, 2, none⟩ = some (.int .i64 f.b) ∧ w7.cell? ⟨w.heap.size, 3, none⟩ = some (.int .i64 f.c) ∧ w7.cell? ⟨w.heap.size, 4, none⟩ = some (.string f.d) ∧ w7.cell? ⟨w.heap.size, 5, none⟩ = some (.slice ra f.rs.length rc) ∧ w7.cell? ⟨w4.heap.size, 0, none⟩ = some (.int .i64 f.k) ∧ w7.cell? ⟨w4.heap.size, 1, none⟩ = some (.int .i64 f.a) ∧ w7.cell? ⟨w4.heap.size, 2, none⟩ = some (.int .i64 f.b) ∧ w7.cell? ⟨w4.heap.size, 3, none⟩ = some (.int .i64 f.c) ∧ w7.cell? ⟨w4.heap.size, 4, none⟩ = some (.string f.d) ∧ w7.cell? ⟨w4.heap.size, 5, none⟩ = some (.slice a2 f.rs.length c2) := tw7.cells)
      | (go_at_call 13; refine (HEQ.out _ _ _ (HR6.out.below hb7) (Rngs.of_own ho7)).mono ?_; rintro e w8 ⟨rfl, hb8⟩; have k8 : w8.cell? ⟨w.heap.size, 0, none⟩ = some (.int .i64 f.k) ∧ w8.cell? ⟨w.heap.size, 1, none⟩ = some (.int .i64 f.a) ∧ w8.cell? ⟨w.heap.size, 2, none⟩ = some (.int .i64 f.b) ∧ w8.cell? ⟨w.heap.size, 3, none⟩ = some (.int .i64 f.c) ∧ w8.cell? ⟨w.heap.size, 4, none⟩ = some (.string f.d) ∧ w8.cell? ⟨w.heap.size, 5, none⟩ = some (.slice ra f.rs.length rc) ∧ w8.cell? ⟨w4.heap.size, 0, none⟩ = some (.int .i64 f.k) ∧ w8.cell? ⟨w4.heap.size, 1, none⟩ = some (.int .i64 f.a) ∧ w8.cell? ⟨w4.heap.size, 2, none⟩ = some (.int .i64 f.b) ∧ w8.cell? ⟨w4.heap.size, 3, none⟩ = some (.int .i64 f.c) ∧ w8.cell? ⟨w4.heap.size, 4, none⟩ = some (.string f.d) ∧ w8.cell? ⟨w4.heap.size, 5, none⟩ = some (.slice a2 f.rs.length c2) := (tw7.below hb8).cells))
  have HB8 := Lib.hid (HB6.out.trans ((hb7.trans (hb8.mono hb7.size)).mono HB6.out.size))
  clear hb7 hb8 k7 k8 tw7 ho7
  go_wp2_with fail
  go_ret
  exact ⟨rfl, HB8.out⟩

set_option maxRecDepth 100000 in
set_option maxHeartbeats 2000000 in
theorem exfl_walk (f : Fr) (ra : Option Addr) (rc : Nat) (w : World) (hl : f.rs.length ≤ 9223372036854775807) (hd : f.d.size ≤ maxLen) (h : Rngs w (.slice ra f.rs.length rc) f.rs) :
    Calls Try.prog 8 #[frV f (.slice ra f.rs.length rc)] w fun e w' => e = .returned (.bool true) ∧ Below w.heap.size w w' := by
  have H := Lib.hid h
  clear h
  have HSZ := Lib.hid (fun W => szfr_any f ra rc 1048576 W (by omega) (by omega) hl hd)
  have hneg := szF_neg f
  obtain ⟨z, hz⟩ : ∃ z, szF f 1048576 = z := ⟨_, rfl⟩
  rw [hz] at HSZ hneg
  clear hz
  have FN0 := Lib.hid (Frm.new w 24 [.int .i64 f.k, .int .i64 f.a, .int .i64 f.b, .int .i64 f.c, .string f.d, .slice ra f.rs.length rc])
  have B0 : Hid (Below w.heap.size w (w.alloc (.cells #[.int .i64 f.k, .int .i64 f.a, .int .i64 f.b, .int .i64 f.c, .string f.d, .slice ra f.rs.length rc] 24))) := Lib.hid ((Below.refl _ _).alloc (Nat.le_refl _) _)
  have z0 : (w.alloc (.cells #[.int .i64 f.k, .int .i64 f.a, .int .i64 f.b, .int .i64 f.c, .string f.d, .slice ra f.rs.length rc] 24)).heap.size = w.heap.size + 1 := by simp
  rcases hneg with hneg | ⟨hneg, hl2, hd2⟩
  · unfold frV at HSZ ⊢
    go_enter Try.func8, Try.ntmps8
    go_wp2_with fail
    refine (HSZ.out _).mono ?_
    rintro e w1 ⟨rfl, hb1⟩
    have HB1 := Lib.hid (B0.out.trans (hb1.mono B0.out.size))
    clear hb1
    go_wp2_with fail
    go_ret
    exact ⟨rfl, HB1.out⟩
  have HTO := Lib.hid (fun W h => tofr_any f ra rc W h hl2)
  have HSP := Lib.hid (fun W a c h => sfel_any f (.slice a f.rs.length c) W h hl2 (by omega))
  have HIM := Lib.hid (fun W a c h => ifel_any f (.slice a f.rs.length c) W h hl2 (by omega))
  have HEQ := Lib.hid (fun W v v' h h' => eqfr_any f f v v' W h h' hl2 hl2)
  rw [frEq_iff.2 rfl] at HEQ
  obtain ⟨q, hq⟩ : ∃ q, fel f = q := ⟨_, rfl⟩
  rw [hq] at HSP HIM
  clear hq
  unfold frV at HSZ HTO HSP HIM HEQ ⊢
  go_enter Try.func8, Try.ntmps8
  go_wp2_with fail
  refine (HSZ.out _).mono ?_
  rintro e w1 ⟨rfl, hb1⟩
  have HB1 := Lib.hid (B0.out.trans (hb1.mono B0.out.size))
  have FN1 := Frm.below FN0.out hb1 (by omega)
  have FN1h := Lib.hid FN1
  have hs1 : w.heap.size < w1.heap.size := by have := hb1.size; omega
  obtain ⟨p0, p1, p2, p3, p4, p5⟩ : w1.cell? ⟨w.heap.size, 0, none⟩ = some (.int .i64 f.k) ∧ w1.cell? ⟨w.heap.size, 1, none⟩ = some (.int .i64 f.a) ∧ w1.cell? ⟨w.heap.size, 2, none⟩ = some (.int .i64 f.b) ∧ w1.cell? ⟨w.heap.size, 3, none⟩ = some (.int .i64 f.c) ∧ w1.cell? ⟨w.heap.size, 4, none⟩ = some (.string f.d) ∧ w1.cell? ⟨w.heap.size, 5, none⟩ = some (.slice ra f.rs.length rc) := ⟨FN1 0, FN1 1, FN1 2, FN1 3, FN1 4, FN1 5⟩
  clear hb1 FN1
  go_wp2_with fail
  refine (HTO.out _ (H.out.below HB1.out)).mono ?_
  rintro e w2 ⟨a1, c1, rfl, hb2, ho2⟩
  have HB2 := Lib.hid (HB1.out.trans (hb2.mono HB1.out.size))
  have FN2 := Frm.below FN1h.out hb2 hs1
  have FN2h := Lib.hid FN2
  have hs2 : w.heap.size < w2.heap.size := by have := hb2.size; omega
  have HO2 := Lib.hid ho2
  clear hb2 ho2 FN2 p0 p1 p2 p3 p4 p5
  go_wp2_with fail
  refine (HSP.out _ _ _ (Rngs.of_own HO2.out)).mono ?_
  rintro e w3 ⟨rfl, hb3⟩
  have HB3 := Lib.hid (HB2.out.trans (hb3.mono HB2.out.size))
  have FN3 := Frm.below FN2h.out hb3 hs2
  have FN3h := Lib.hid FN3
  have hs3 : w.heap.size < w3.heap.size := by have := hb3.size; omega
  obtain ⟨p0, p1, p2, p3, p4, p5⟩ : w3.cell? ⟨w.heap.size, 0, none⟩ = some (.int .i64 f.k) ∧ w3.cell? ⟨w.heap.size, 1, none⟩ = some (.int .i64 f.a) ∧ w3.cell? ⟨w.heap.size, 2, none⟩ = some (.int .i64 f.b) ∧ w3.cell? ⟨w.heap.size, 3, none⟩ = some (.int .i64 f.c) ∧ w3.cell? ⟨w.heap.size, 4, none⟩ = some (.string f.d) ∧ w3.cell? ⟨w.heap.size, 5, none⟩ = some (.slice ra f.rs.length rc) := ⟨FN3 0, FN3 1, FN3 2, FN3 3, FN3 4, FN3 5⟩
  clear hb3 FN3
  go_wp2_with fail
  refine (HTO.out _ (H.out.below HB3.out)).mono ?_
  rintro e w4 ⟨a2, c2, rfl, hb4, ho4⟩
  have HB4 := Lib.hid (HB3.out.trans (hb4.mono HB3.out.size))
  have FN4 := Lib.hid (Frm.below FN3h.out hb4 hs3)
  have hs4 : w.heap.size < w4.heap.size := by have := hb4.size; omega
  have BX : Hid (Below w4.heap.size w4 (w4.alloc (.cells #[.int .i64 f.k, .int .i64 f.a, .int .i64 f.b, .int .i64 f.c, .string f.d, .slice a2 f.rs.length c2] 29))) := Lib.hid ((Below.refl _ _).alloc (Nat.le_refl _) _)
  have TW : Hid (Two (w4.alloc (.cells #[.int .i64 f.k, .int .i64 f.a, .int .i64 f.b, .int .i64 f.c, .string f.d, .slice a2 f.rs.length c2] 29)) w.heap.size w4.heap.size [.int .i64 f.k, .int .i64 f.a, .int .i64 f.b, .int .i64 f.c, .string f.d, .slice ra f.rs.length rc] [.int .i64 f.k, .int .i64 f.a, .int .i64 f.b, .int .i64 f.c, .string f.d, .slice a2 f.rs.length c2]) := Lib.hid ⟨Frm.below FN4.out BX.out hs4, Frm.new w4 29 _, by simp; omega, by simp⟩
  have HO4 : Hid (OwnRg (w4.alloc (.cells #[.int .i64 f.k, .int .i64 f.a, .int .i64 f.b, .int .i64 f.c, .string f.d, .slice a2 f.rs.length c2] 29)) w3.heap.size (.slice a2 f.rs.length c2) f.rs) := Lib.hid (World.ownsRow.alloc ho4 _)
  have HB5 : Hid (Below w.heap.size w (w4.alloc (.cells #[.int .i64 f.k, .int .i64 f.a, .int .i64 f.b, .int .i64 f.c, .string f.d, .slice a2 f.rs.length c2] 29))) := Lib.hid (HB4.out.trans (BX.out.mono HB4.out.size))
  clear hb4 ho4 p0 p1 p2 p3 p4 p5
  go_wp2_with fail
  generalize (w4.alloc (.cells #[.int .i64 f.k, .int .i64 f.a, .int .i64 f.b, .int .i64 f.c, .string f.d, .slice a2 f.rs.length c2] 29)) = W5 at *
  refine (HIM.out _ _ _ (Rngs.of_own HO4.out)).mono ?_
  rintro e w6 ⟨rfl, hb6⟩
  have TW6 := Lib.hid (TW.out.below hb6)
  have HO6 := Lib.hid (own_below HO4.out hb6)
  have HB6 : Hid (Below w.heap.size w w6.drew) := Lib.hid ((HB5.out.trans (hb6.mono HB5.out.size)).drew)
  have HR6 : Hid (Rngs w6.drew (.slice a2 f.rs.length c2) f.rs) := Lib.hid ((Rngs.of_own HO6.out).below (Below.refl _ _).drew)
  clear hb6
  have D6 : Hid (w6.drew.cell? ⟨w.heap.size, 0, none⟩ = some (.int .i64 f.k) ∧ w6.drew.cell? ⟨w.heap.size, 1, none⟩ = some (.int .i64 f.a) ∧ w6.drew.cell? ⟨w.heap.size, 2, none⟩ = some (.int .i64 f.b) ∧ w6.drew.cell? ⟨w.heap.size, 3, none⟩ = some (.int .i64 f.c) ∧ w6.drew.cell? ⟨w.heap.size, 4, none⟩ = some (.string f.d) ∧ w6.drew.cell? ⟨w.heap.size, 5, none⟩ = some (.slice ra f.rs.length rc) ∧ w6.drew.cell? ⟨w4.heap.size, 0, none⟩ = some (.int .i64 f.k) ∧ w6.drew.cell? ⟨w4.heap.size, 1, none⟩ = some (.int .i64 f.a) ∧ w6.drew.cell? ⟨w4.heap.size, 2, none⟩ = some (.int .i64 f.b) ∧ w6.drew.cell? ⟨w4.heap.size, 3, none⟩ = some (.int .i64 f.c) ∧ w6.drew.cell? ⟨w4.heap.size, 4, none⟩ = some (.string f.d) ∧ w6.drew.cell? ⟨w4.heap.size, 5, none⟩ = some (.slice a2 f.rs.length c2)) := Lib.hid TW6.out.cells
  obtain ⟨p0, p1, p2, p3, p4, p5, x0, x1, x2, x3, x4, x5⟩ := D6.out
  go_wp2_with fail
  go_region_held3 (fun w' => w'.cell? ⟨w.heap.size, 0, none⟩ = some (.int .i64 f.k) ∧ w'.cell? ⟨w.heap.size, 1, none⟩ = some (.int .i64 f.a) ∧ w'.cell? ⟨w.heap.size, 2, none⟩ = some (.int .i64 f.b) ∧ w'.cell? ⟨w.heap.size, 3, none⟩ = some (.int .i64 f.c) ∧ w'.cell? ⟨w.heap.size, 4, none⟩ = some (.string f.d) ∧ w'.cell? ⟨w.heap.size, 5, none⟩ = some (.slice ra f.rs.length rc) ∧ w'.cell? ⟨w4.heap.size, 0, none⟩ = some (.int .i64 f.k) ∧ w'.cell? ⟨w4.heap.size, 1, none⟩ = some (.int .i64 f.a) ∧ w'.cell? ⟨w4.heap.size, 2, none⟩ = some (.int .i64 f.b) ∧ w'.cell? ⟨w4.heap.size, 3, none⟩ = some (.int .i64 f.c) ∧ w'.cell? ⟨w4.heap.size, 4, none⟩ = some (.string f.d) ∧ w'.cell? ⟨w4.heap.size, 5, none⟩ = some (.slice a2 f.rs.length c2)) (with_reducible first | assumption | exact D6.out | exact k7 | exact k8)
    (first
      | (go_at_call 11; refine (HTO.out _ (H.out.below HB6.out)).mono ?_; rintro e w7 ⟨a3, c3, rfl, hb7, ho7⟩; have tw7 := Two.below (w := w6.drew) ⟨TW6.out.1, TW6.out.2.1, TW6.out.2.2.1, TW6.out.2.2.2⟩ hb7; have k7 : w7.cell? ⟨w.heap.size, 0, none⟩ = some (.int .i64 f.k) ∧ w7.cell? ⟨w.heap.size, 1, none⟩ = some (.int .i64 f.a) ∧ w7.cell? ⟨w.heap.size, 2, none⟩ = some (.int .i64 f.b) ∧ w7.cell? ⟨w.heap.size, 3, none⟩ = some (.int .i64 f.c) ∧ w7.cell? ⟨w.heap.size, 4, none⟩ = some (.string f.d) ∧ w7.cell? ⟨w.heap.size, 5, none⟩ = some (.slice ra f.rs.length rc) ∧ w7.cell? ⟨w4.heap.size, 0, none⟩ = some (.int .i64 f.k) ∧ w7.cell? ⟨w4.heap.size, 1, none⟩ = some (.int .i64 f.a) ∧ w7.cell? ⟨w4.heap.size, 2, none⟩ = some (.int .i64 f.b) ∧ w7.cell? ⟨w4.heap.size, 3, none⟩ = some (.int .i64 f.c) ∧ w7.cell? ⟨w4.heap.size, 4, none⟩ = some (.string f.d) ∧ w7.cell? ⟨w4.heap.size, 5, none⟩ = some (.slice a2 f.rs.length c2) := tw7.cells)
      | (go_at_call 13; refine (HEQ.out _ _ _ (HR6.out.below hb7) (Rngs.of_own ho7)).mono ?_; rintro e w8 ⟨rfl, hb8⟩; have k8 : w8.cell? ⟨w.heap.size, 0, none⟩ = some (.int .i64 f.k) ∧ w8.cell? ⟨w.heap.size, 1, none⟩ = some (.int .i64 f.a) ∧ w8.cell? ⟨w.heap.size, 2, none⟩ = some (.int .i64 f.b) ∧ w8.cell? ⟨w.heap.size, 3, none⟩ = some (.int .i64 f.c) ∧ w8.cell? ⟨w.heap.size, 4, none⟩ = some (.string f.d) ∧ w8.cell? ⟨w.heap.size, 5, none⟩ = some (.slice ra f.rs.length rc) ∧ w8.cell? ⟨w4.heap.size, 0, none⟩ = some (.int .i64 f.k) ∧ w8.cell? ⟨w4.heap.size, 1, none⟩ = some (.int .i64 f.a) ∧ w8.cell? ⟨w4.heap.size, 2, none⟩ = some (.int .i64 f.b) ∧ w8.cell? ⟨w4.heap.size, 3, none⟩ = some (.int .i64 f.c) ∧ w8.cell? ⟨w4.heap.size, 4, none⟩ = some (.string f.d) ∧ w8.cell? ⟨w4.heap.size, 5, none⟩ = some (.slice a2 f.rs.length c2) := (tw7.below hb8).cells))
  have HB8 := Lib.hid (HB6.out.trans ((hb7.trans (hb8.mono hb7.size)).mono HB6.out.size))
  clear hb7 hb8 k7 k8 tw7 ho7
  go_wp2_with fail
  go_ret
  exact ⟨rfl, HB8.out⟩

end Go.Proofs.Ythflokonihegbab
