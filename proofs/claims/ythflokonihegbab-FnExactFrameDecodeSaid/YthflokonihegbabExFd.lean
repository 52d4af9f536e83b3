/- FnExactFrameDecode. -/
import Derived.Test.YthflokonihegbabEqF
import Derived.Test.YthflokonihegbabMk4
import Derived.Test.YthflokonihegbabID
import Derived.Test.YthflokonihegbabSFd
namespace Go.Proofs.Ythflokonihegbab
open Go.RowKit
set_option linter.unusedVariables false
set_option linter.unusedSimpArgs false

/-- FrameDecode's answer in one form. -/
theorem fd_form {w w' : World} {o : Option (Fr × Nat)} {e : Ending} (h : FdPost w o e w') : ∃ (a : Option Addr) (c : Nat), e = .returned (.tuple #[frV (o.getD (⟨0, 0, 0, 0, ⟨#[]⟩, []⟩, 0)).1 (.slice a (o.getD (⟨0, 0, 0, 0, ⟨#[]⟩, []⟩, 0)).1.rs.length c), .int .i64 ((o.getD (⟨0, 0, 0, 0, ⟨#[]⟩, []⟩, 0)).2 : Int), .bool o.isSome]) ∧ Below w.heap.size w w' ∧ OwnRg w' w.heap.size (.slice a (o.getD (⟨0, 0, 0, 0, ⟨#[]⟩, []⟩, 0)).1.rs.length c) (o.getD (⟨0, 0, 0, 0, ⟨#[]⟩, []⟩, 0)).1.rs := by
  rcases h with ⟨rfl, a, c, rfl, hb, ho⟩ | ⟨f, n, a, c, rfl, rfl, hb, ho⟩
  · exact ⟨a, c, rfl, hb, ho⟩
  · exact ⟨a, c, rfl, hb, ho⟩

set_option maxRecDepth 100000 in
set_option maxHeartbeats 1000000 in
theorem markfr_any (f : Fr) (v : Value) (B : Nat) (w : World) (h : OwnRg w B v f.rs) (hx : f.rs.length ≤ 1048576) :
    Calls Try.prog 18 #[frV f v, .int .i64 1] w fun e w' => e = .returned (.int .i64 (1 + 2 * (f.rs.length : Int))) ∧ OwnRg w' B v (rmarks f.rs.length) ∧ (∃ w0, Below w.heap.size w w0 ∧ w0.grownBy w' v.ownBlock) := by
  unfold frV
  have HO : Hid (OwnRg (w.alloc (.cells #[.int .i64 f.k, .int .i64 f.a, .int .i64 f.b, .int .i64 f.c, .string f.d, v] 29)) B v f.rs) := Lib.hid (World.ownsRow.alloc h _)
  go_enter Try.func18, Try.ntmps18
  go_wp2_with fail
  refine (markr_any v f.rs B _ HO.out hx).mono ?_
  rintro e w1 ⟨rfl, hg, ho⟩
  have HG := Lib.hid hg
  have HO1 := Lib.hid ho
  clear hg ho
  go_wp2_with fail
  go_ret
  exact ⟨rfl, HO1.out, _, (Below.refl _ _).alloc (Nat.le_refl _) _, HG.out⟩

set_option maxRecDepth 100000 in
set_option maxHeartbeats 1000000 in
theorem heldfr_any (f : Fr) (v : Value) (n : Nat) (w : World) (h : Rngs w v (rmarks n)) (hx : n ≤ 1048576) :
    Calls Try.prog 19 #[frV f v, .int .i64 1] w fun e w' => e = .returned (.int .i64 (1 + 2 * (n : Int))) ∧ Below w.heap.size w w' := by
  unfold frV
  have HR : Hid (Rngs (w.alloc (.cells #[.int .i64 f.k, .int .i64 f.a, .int .i64 f.b, .int .i64 f.c, .string f.d, v] 29)) v (rmarks n)) := Lib.hid (h.below ((Below.refl _ _).alloc (Nat.le_refl _) _))
  go_enter Try.func19, Try.ntmps19
  go_wp2_with fail
  refine (heldr_any v n _ HR.out hx).mono ?_
  rintro e w1 ⟨rfl, rfl⟩
  have hneg : ¬ (1 + 2 * (n : Int)) < 0 := by omega
  go_wp2_with fail
  go_ret
  exact ⟨rfl, (Below.refl _ _).alloc (Nat.le_refl _) _⟩

/-- Two frames in variables, their ranges of the call's own. -/
def Bn (w0 w : World) (b0 b1 B1 : Nat) (vs0 vs1 : List Value) (u0 u1 : Value) (rs L : List (Int × Int)) : Prop :=
  Frm w b0 vs0 ∧ Frm w b1 vs1 ∧ OwnRg w w0.heap.size u0 rs ∧ OwnRg w B1 u1 L ∧ Below w0.heap.size w0 w ∧ b0 < w.heap.size ∧ b1 < w.heap.size
theorem Bn.below {w0 w w' : World} {b0 b1 B1 : Nat} {vs0 vs1 : List Value} {u0 u1 : Value} {rs L : List (Int × Int)} (h : Bn w0 w b0 b1 B1 vs0 vs1 u0 u1 rs L) (hb : Below w.heap.size w w') : Bn w0 w' b0 b1 B1 vs0 vs1 u0 u1 rs L := by
  obtain ⟨h1, h2, h3, h4, h5, h6, h7⟩ := h
  exact ⟨h1.below hb h6, h2.below hb h7, own_below h3 hb, own_below h4 hb, h5.trans (hb.mono h5.size), by have := hb.size; omega, by have := hb.size; omega⟩
theorem frm6 {w : World} {b : Nat} {v0 v1 v2 v3 v4 v5 : Value} (h : Frm w b [v0, v1, v2, v3, v4, v5]) : w.cell? ⟨b, 0, none⟩ = some v0 ∧ w.cell? ⟨b, 1, none⟩ = some v1 ∧ w.cell? ⟨b, 2, none⟩ = some v2 ∧ w.cell? ⟨b, 3, none⟩ = some v3 ∧ w.cell? ⟨b, 4, none⟩ = some v4 ∧ w.cell? ⟨b, 5, none⟩ = some v5 := ⟨h 0, h 1, h 2, h 3, h 4, h 5⟩
theorem frm_row {w w' : World} {b : Nat} {vs : List Value} {row : Option Nat} (h : Frm w b vs) (hlt : b < w.heap.size) (hg : w.grownBy w' row) (hne : some b ≠ row) : Frm w' b vs :=
  fun i => (World.grownBy.cell_far hg ⟨b, i, none⟩ hlt hne).trans (h i)
/-- The second frame's ranges are overwritten. -/
theorem Bn.mark {w0 w wm w' : World} {b0 b1 B1 : Nat} {vs0 vs1 : List Value} {u0 u1 : Value} {rs L M : List (Int × Int)} (h : Bn w0 w b0 b1 B1 vs0 vs1 u0 u1 rs L) (hb : Below w.heap.size w wm) (hg : wm.grownBy w' u1.ownBlock) (ho : OwnRg w' B1 u1 M)
    (hB : w0.heap.size ≤ B1) (n0 : ∀ y, u1.ownBlock = some y → b0 ≠ y ∧ b1 ≠ y) (nu : ∀ y, u1.ownBlock = some y → u0.ownBlock ≠ some y) : Bn w0 w' b0 b1 B1 vs0 vs1 u0 u1 rs M := by
  obtain ⟨h1, h2, h3, h4, h5, h6, h7⟩ := h.below hb
  have hs := hg.size
  refine ⟨frm_row h1 h6 hg (fun e => (n0 _ e.symm).1 rfl), frm_row h2 h7 hg (fun e => (n0 _ e.symm).2 rfl), World.ownsRow.kept h3 hg ?_, ho, h5.grown hg h5.size (fun k hk => by have := (World.ownsRow.lt h4 k hk).1; omega), by omega, by omega⟩
  cases hq : u0.ownBlock with
  | none => exact .inl rfl
  | some y => exact .inr fun e => nu y e.symm hq

set_option maxRecDepth 100000 in
set_option maxHeartbeats 2000000 in
theorem exfd_walk (s : ByteArray) (w : World) (hs : s.size ≤ maxLen) : Calls Try.prog 5 #[.string s] w fun e w' => e = .returned (.bool true) ∧ Below w.heap.size w w' := by
  by_cases hl : (1048576 : Int) < s.size
  · go_enter Try.func5, Try.ntmps5
    go_wp2
    go_ret
    exact ⟨rfl, Below.refl _ _⟩
  have hs4 : s.size ≤ 4194304 := by omega
  have HS := Lib.hid (fun W => (sfdec_any s W hs4).mono (fun e w' h => fd_form h))
  have HI := Lib.hid (fun W => (ifdec_any s W hs4).mono (fun e w' h => fd_form h))
  have hrl : ((dec4 s).getD (⟨0, 0, 0, 0, ⟨#[]⟩, []⟩, 0)).1.rs.length ≤ 1048576 := by
    cases hd : dec4 s with
    | none => simp
    | some p => obtain ⟨f, n⟩ := p; have := (fok_bnd (dec4_some hd).1).1; simp only [Option.getD_some]; omega
  generalize (dec4 s).isSome = bo at *
  generalize ((dec4 s).getD (⟨0, 0, 0, 0, ⟨#[]⟩, []⟩, 0)).2 = n at *
  generalize ((dec4 s).getD (⟨0, 0, 0, 0, ⟨#[]⟩, []⟩, 0)).1 = f at *
  have HEQ := Lib.hid (fun W v v' h h' => eqfr_any f f v v' W h h' hrl hrl)
  rw [frEq_iff.2 rfl] at HEQ
  have HMK := Lib.hid (fun v B W h => markfr_any f v B W h hrl)
  have HHD := Lib.hid (fun v W h => heldfr_any f v f.rs.length W h hrl)
  unfold frV at HS HI HEQ HMK HHD
  go_enter Try.func5, Try.ntmps5
  go_wp2_with fail
  refine (HS.out _).mono ?_
  rintro e w1 ⟨a0, c0, rfl, hb1, ho1⟩
  have HB1 := Lib.hid hb1
  have HO1 := Lib.hid ho1
  have FN1 := Lib.hid (Frm.new w1 29 [.int .i64 f.k, .int .i64 f.a, .int .i64 f.b, .int .i64 f.c, .string f.d, .slice a0 f.rs.length c0])
  have BA1 : Hid (Below w1.heap.size w1 (w1.alloc (.cells #[.int .i64 f.k, .int .i64 f.a, .int .i64 f.b, .int .i64 f.c, .string f.d, .slice a0 f.rs.length c0] 29))) := Lib.hid ((Below.refl _ _).alloc (Nat.le_refl _) _)
  have hz1 : (w1.alloc (.cells #[.int .i64 f.k, .int .i64 f.a, .int .i64 f.b, .int .i64 f.c, .string f.d, .slice a0 f.rs.length c0] 29)).heap.size = w1.heap.size + 1 := by simp
  clear hb1 ho1
  go_wp2_with fail
  generalize hW1 : w1.alloc (.cells #[.int .i64 f.k, .int .i64 f.a, .int .i64 f.b, .int .i64 f.c, .string f.d, .slice a0 f.rs.length c0] 29) = W1 at *
  clear hW1
  refine (HI.out _).mono ?_
  rintro e w2 ⟨a1, c1, rfl, hb2, ho2⟩
  have BN2 : Hid (Bn w (w2.alloc (.cells #[.int .i64 f.k, .int .i64 f.a, .int .i64 f.b, .int .i64 f.c, .string f.d, .slice a1 f.rs.length c1] 29)) w1.heap.size w2.heap.size W1.heap.size [.int .i64 f.k, .int .i64 f.a, .int .i64 f.b, .int .i64 f.c, .string f.d, .slice a0 f.rs.length c0] [.int .i64 f.k, .int .i64 f.a, .int .i64 f.b, .int .i64 f.c, .string f.d, .slice a1 f.rs.length c1] (.slice a0 f.rs.length c0) (.slice a1 f.rs.length c1) f.rs f.rs) := Lib.hid (by
    have hx : Below w2.heap.size w2 (w2.alloc (.cells #[.int .i64 f.k, .int .i64 f.a, .int .i64 f.b, .int .i64 f.c, .string f.d, .slice a1 f.rs.length c1] 29)) := (Below.refl _ _).alloc (Nat.le_refl _) _
    have hs2 := hb2.size
    have hs1 := HB1.out.size
    exact ⟨Frm.below (Frm.below FN1.out hb2 (by omega)) hx (by omega), Frm.new w2 29 _, own_below (own_below (own_below HO1.out BA1.out) hb2) hx, own_below ho2 hx, (((HB1.out.trans (BA1.out.mono hs1)).trans (hb2.mono (by omega))).trans (hx.mono (by omega))), by simp; omega, by simp⟩)
  have hO2 := Lib.hid ho2
  have hs2 := hb2.size
  have hs1 := HB1.out.size
  clear hb2 ho2
  obtain ⟨p0, p1, p2, p3, p4, p5⟩ := frm6 BN2.out.1
  obtain ⟨q0, q1, q2, q3, q4, q5⟩ := frm6 BN2.out.2.1
  go_wp2_with fail
  generalize w2.alloc (.cells #[.int .i64 f.k, .int .i64 f.a, .int .i64 f.b, .int .i64 f.c, .string f.d, .slice a1 f.rs.length c1] 29) = W2 at *
  have NE : Hid ((∀ y, (Value.slice a1 f.rs.length c1).ownBlock = some y → w1.heap.size ≠ y ∧ w2.heap.size ≠ y) ∧ ∀ y, (Value.slice a1 f.rs.length c1).ownBlock = some y → (Value.slice a0 f.rs.length c0).ownBlock ≠ some y) := Lib.hid (by
    refine ⟨fun y hy => ?_, fun y hy e => ?_⟩
    · obtain ⟨h1, h2⟩ := World.ownsRow.lt hO2.out y hy; omega
    · obtain ⟨h1, h2⟩ := World.ownsRow.lt hO2.out y hy
      have := (World.ownsRow.lt HO1.out y e).2
      omega)
  have hB1 : w.heap.size ≤ W1.heap.size := by omega
  refine (HEQ.out _ _ _ (Rngs.of_own BN2.out.2.2.2.1) (Rngs.of_own BN2.out.2.2.1)).mono ?_
  rintro e w3 ⟨rfl, hb3⟩
  have BN3 : Hid (Bn w w3 w1.heap.size w2.heap.size W1.heap.size [.int .i64 f.k, .int .i64 f.a, .int .i64 f.b, .int .i64 f.c, .string f.d, .slice a0 f.rs.length c0] [.int .i64 f.k, .int .i64 f.a, .int .i64 f.b, .int .i64 f.c, .string f.d, .slice a1 f.rs.length c1] (.slice a0 f.rs.length c0) (.slice a1 f.rs.length c1) f.rs f.rs) := Lib.hid (BN2.out.below hb3)
  clear hb3 p0 p1 p2 p3 p4 p5 q0 q1 q2 q3 q4 q5
  obtain ⟨p0, p1, p2, p3, p4, p5⟩ := frm6 BN3.out.1
  obtain ⟨q0, q1, q2, q3, q4, q5⟩ := frm6 BN3.out.2.1
  have hnn : ((n : Int) != (n : Int)) = false := by simp
  go_wp2_with fail
  refine (HMK.out _ _ _ BN3.out.2.2.2.1).mono ?_
  rintro e w4 ⟨rfl, ho4, wm, hbm, hg4⟩
  have BN4 : Hid (Bn w w4 w1.heap.size w2.heap.size W1.heap.size [.int .i64 f.k, .int .i64 f.a, .int .i64 f.b, .int .i64 f.c, .string f.d, .slice a0 f.rs.length c0] [.int .i64 f.k, .int .i64 f.a, .int .i64 f.b, .int .i64 f.c, .string f.d, .slice a1 f.rs.length c1] (.slice a0 f.rs.length c0) (.slice a1 f.rs.length c1) f.rs (rmarks f.rs.length)) := Lib.hid (BN3.out.mark hbm hg4 ho4 hB1 NE.out.1 NE.out.2)
  clear ho4 hbm hg4 p0 p1 p2 p3 p4 p5 q0 q1 q2 q3 q4 q5
  obtain ⟨p0, p1, p2, p3, p4, p5⟩ := frm6 BN4.out.1
  obtain ⟨q0, q1, q2, q3, q4, q5⟩ := frm6 BN4.out.2.1
  have hm0 : ¬ (1 + 2 * (f.rs.length : Int)) < 0 := by omega
  have hm1 : ((1 + 2 * (f.rs.length : Int)) != (1 + 2 * (f.rs.length : Int))) = false := by simp
  go_wp2_with fail
  refine (HHD.out _ _ (Rngs.of_own BN4.out.2.2.2.1)).mono ?_
  rintro e w5 ⟨rfl, hb5⟩
  have BN5 : Hid (Bn w w5 w1.heap.size w2.heap.size W1.heap.size [.int .i64 f.k, .int .i64 f.a, .int .i64 f.b, .int .i64 f.c, .string f.d, .slice a0 f.rs.length c0] [.int .i64 f.k, .int .i64 f.a, .int .i64 f.b, .int .i64 f.c, .string f.d, .slice a1 f.rs.length c1] (.slice a0 f.rs.length c0) (.slice a1 f.rs.length c1) f.rs (rmarks f.rs.length)) := Lib.hid (BN4.out.below hb5)
  clear hb5 p0 p1 p2 p3 p4 p5 q0 q1 q2 q3 q4 q5
  go_wp2_with fail
  refine (HI.out _).mono ?_
  rintro e w6 ⟨a2, c2, rfl, hb6, ho6⟩
  have BN6 : Hid (Bn w w6 w1.heap.size w2.heap.size W1.heap.size [.int .i64 f.k, .int .i64 f.a, .int .i64 f.b, .int .i64 f.c, .string f.d, .slice a0 f.rs.length c0] [.int .i64 f.k, .int .i64 f.a, .int .i64 f.b, .int .i64 f.c, .string f.d, .slice a1 f.rs.length c1] (.slice a0 f.rs.length c0) (.slice a1 f.rs.length c1) f.rs (rmarks f.rs.length)) := Lib.hid (BN5.out.below hb6)
  have FN6 : Hid (Frm (w6.alloc (.cells #[.int .i64 f.k, .int .i64 f.a, .int .i64 f.b, .int .i64 f.c, .string f.d, .slice a2 f.rs.length c2] 29)) w6.heap.size [.int .i64 f.k, .int .i64 f.a, .int .i64 f.b, .int .i64 f.c, .string f.d, .slice a2 f.rs.length c2]) := Lib.hid (Frm.new w6 29 _)
  have BN7 : Hid (Bn w (w6.alloc (.cells #[.int .i64 f.k, .int .i64 f.a, .int .i64 f.b, .int .i64 f.c, .string f.d, .slice a2 f.rs.length c2] 29)) w1.heap.size w2.heap.size W1.heap.size [.int .i64 f.k, .int .i64 f.a, .int .i64 f.b, .int .i64 f.c, .string f.d, .slice a0 f.rs.length c0] [.int .i64 f.k, .int .i64 f.a, .int .i64 f.b, .int .i64 f.c, .string f.d, .slice a1 f.rs.length c1] (.slice a0 f.rs.length c0) (.slice a1 f.rs.length c1) f.rs (rmarks f.rs.length)) := Lib.hid (BN6.out.below ((Below.refl _ _).alloc (Nat.le_refl _) _))
  have HO6 : Hid (OwnRg (w6.alloc (.cells #[.int .i64 f.k, .int .i64 f.a, .int .i64 f.b, .int .i64 f.c, .string f.d, .slice a2 f.rs.length c2] 29)) w5.heap.size (.slice a2 f.rs.length c2) f.rs) := Lib.hid (World.ownsRow.alloc ho6 _)
  clear hb6 ho6
  obtain ⟨p0, p1, p2, p3, p4, p5⟩ := frm6 BN7.out.1
  obtain ⟨q0, q1, q2, q3, q4, q5⟩ := frm6 FN6.out
  go_wp2_with fail
  generalize (w6.alloc (.cells #[.int .i64 f.k, .int .i64 f.a, .int .i64 f.b, .int .i64 f.c, .string f.d, .slice a2 f.rs.length c2] 29)) = W6 at *
  refine (HEQ.out _ _ _ (Rngs.of_own HO6.out) (Rngs.of_own BN7.out.2.2.1)).mono ?_
  rintro e w8 ⟨rfl, hb8⟩
  have BN8 : Hid (Bn w w8 w1.heap.size w2.heap.size W1.heap.size [.int .i64 f.k, .int .i64 f.a, .int .i64 f.b, .int .i64 f.c, .string f.d, .slice a0 f.rs.length c0] [.int .i64 f.k, .int .i64 f.a, .int .i64 f.b, .int .i64 f.c, .string f.d, .slice a1 f.rs.length c1] (.slice a0 f.rs.length c0) (.slice a1 f.rs.length c1) f.rs (rmarks f.rs.length)) := Lib.hid (BN7.out.below hb8)
  clear hb8 p0 p1 p2 p3 p4 p5 q0 q1 q2 q3 q4 q5
  obtain ⟨p0, p1, p2, p3, p4, p5⟩ := frm6 BN8.out.1
  obtain ⟨q0, q1, q2, q3, q4, q5⟩ := frm6 BN8.out.2.1
  go_wp2_with fail
  refine (HHD.out _ _ (Rngs.of_own BN8.out.2.2.2.1)).mono ?_
  rintro e w9 ⟨rfl, hb9⟩
  have HB9 := Lib.hid ((BN8.out.below hb9).2.2.2.2.1)
  clear hb9 p0 p1 p2 p3 p4 p5 q0 q1 q2 q3 q4 q5
  go_wp2_with fail
  go_ret
  exact ⟨rfl, HB9.out⟩

end Go.Proofs.Ythflokonihegbab
