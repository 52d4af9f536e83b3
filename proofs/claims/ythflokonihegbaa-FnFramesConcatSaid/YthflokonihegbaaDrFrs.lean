/- The drawn frames as arguments: DrawFrameEncode, DrawFrameValid, DrawFrameEliciting. -/
import Derived.Test.YthflokonihegbaaDrFr
namespace Go.Proofs.Ythflokonihegbaa
open Go.RowKit
set_option linter.unusedVariables false
set_option linter.unusedSimpArgs false

theorem below_reader {w w1 w2 : World} (hb : Below w.heap.size w w1) (hg : w1.grownBy w2 (some w.heap.size)) : Below w.heap.size w w2 :=
  hb.grown hg hb.size (fun j hj => by injection hj with hj; omega)
theorem IsRow.below {k : IntKind} {w w' : World} {a : Option Addr} {len cap : Nat} {zs : List Int} (h : IsRow k w a len cap zs) (hb : Below w.heap.size w w') : IsRow k w' a len cap zs := 
  h.keep fun x _ _ i v hv => (hb.cell (World.block_lt_of_cell? w _ hv)).trans hv
def GotFr (w : World) (e : Ending) (w' : World) : Prop :=
  ∃ (f : Fr) (a : Option Addr) (c : Nat), FrB f ∧ e = .returned (frV f (.slice a f.rs.length c)) ∧ Below w.heap.size w w' ∧ OwnRg w' w.heap.size (.slice a f.rs.length c) f.rs

set_option maxRecDepth 100000 in
set_option maxHeartbeats 800000 in
theorem drawFEnc_any (a : Option Addr) (len cap : Nat) (zs : List Int) (w : World) (h : IsRow .u8 w a len cap zs) :
    Calls Try.prog 15 #[.slice a len cap] w (GotFr w) := by
  have H := Lib.hid h
  clear h
  have B0 : Hid (Below w.heap.size w (w.alloc (.cells [Value.int .i64 0, .int .i64 0, .int .i64 0, .int .i64 0, .string ⟨#[]⟩, .slice none 0 0].toArray 25))) := Lib.hid ((Below.refl _ _).alloc (Nat.le_refl _) _)
  have F0 := Frm.new w 25 [.int .i64 0, .int .i64 0, .int .i64 0, .int .i64 0, .string ⟨#[]⟩, .slice none 0 0]
  have T0 := Thaw.new w 25 [.int .i64 0, .int .i64 0, .int .i64 0, .int .i64 0, .string ⟨#[]⟩, .slice none 0 0]
  have hs0 : (w.alloc (.cells [Value.int .i64 0, .int .i64 0, .int .i64 0, .int .i64 0, .string ⟨#[]⟩, .slice none 0 0].toArray 25)).heap.size = w.heap.size + 1 := by simp
  go_enter Try.func15, Try.ntmps15
  go_wp2_with fail
  refine (open_any a len cap zs _ (H.out.below B0.out)).mono ?_
  rintro e w1 ⟨rfl, hb, hR⟩
  rw [hs0] at hR
  have F1 := F0.below hb (by omega)
  have T1 := T0.below hb (by omega)
  have B1 := Lib.hid (B0.out.trans (hb.mono (by omega)))
  have hz1 : w.heap.size + 1 ≤ w1.heap.size := by have := hb.size; omega
  clear hb F0 T0
  go_wp2_with fail
  refine (frame_any _ 0 _ (by first | exact hR | simpa using hR) (by omega)).mono ?_
  rintro e w2 ⟨f, ra, rc, hf, rfl, hg2, hR2, ho2⟩
  have hg2' : w1.grownBy w2 (some (w.heap.size + 1)) := by first | exact hg2 | simpa using hg2
  have F2 := F1.grown (by simp) hg2' (by omega)
  have T2 := T1.grown (by omega) hg2' (by omega)
  have RC2 := Lib.hid F2
  have HB2 : Hid (Below w.heap.size w w2) := Lib.hid (B1.out.grown hg2' B1.out.size (fun j hj => by injection hj with hj; omega))
  have hne : ∀ x, (Value.slice ra f.rs.length rc).ownBlock = some x → w.heap.size ≠ x := fun x hx => by have := (World.ownsRow.lt ho2 x hx).1; omega
  obtain ⟨r0, r1, r2, r3, r4, r5⟩ : w2.cell? ⟨w.heap.size, 0, none⟩ = some (.int .i64 0) ∧ w2.cell? ⟨w.heap.size, 1, none⟩ = some (.int .i64 0) ∧ w2.cell? ⟨w.heap.size, 2, none⟩ = some (.int .i64 0) ∧ w2.cell? ⟨w.heap.size, 3, none⟩ = some (.int .i64 0) ∧ w2.cell? ⟨w.heap.size, 4, none⟩ = some (.string ⟨#[]⟩) ∧ w2.cell? ⟨w.heap.size, 5, none⟩ = some (.slice none 0 0) := ⟨F2 0, F2 1, F2 2, F2 3, F2 4, F2 5⟩
  obtain ⟨t0, t1, t2, t3, t4, t5⟩ : w2.frozen? ⟨w.heap.size, 0, none⟩ = false ∧ w2.frozen? ⟨w.heap.size, 1, none⟩ = false ∧ w2.frozen? ⟨w.heap.size, 2, none⟩ = false ∧ w2.frozen? ⟨w.heap.size, 3, none⟩ = false ∧ w2.frozen? ⟨w.heap.size, 4, none⟩ = false ∧ w2.frozen? ⟨w.heap.size, 5, none⟩ = false := ⟨T2 0, T2 1, T2 2, T2 3, T2 4, T2 5⟩
  have RC6 : Hid (Frm ((((((w2.setCell ⟨w.heap.size, 0, none⟩ (.int .i64 f.k)).setCell ⟨w.heap.size, 1, none⟩ (.int .i64 f.a)).setCell ⟨w.heap.size, 2, none⟩ (.int .i64 f.b)).setCell ⟨w.heap.size, 3, none⟩ (.int .i64 f.c)).setCell ⟨w.heap.size, 4, none⟩ (.string f.d)).setCell ⟨w.heap.size, 5, none⟩ (.slice ra f.rs.length rc)) w.heap.size [.int .i64 f.k, .int .i64 f.a, .int .i64 f.b, .int .i64 f.c, .string f.d, .slice ra f.rs.length rc]) := Lib.hid ((((((RC2.out.set (i := 0) (by simp) (.int .i64 f.k)).set (i := 1) (by simp) (.int .i64 f.a)).set (i := 2) (by simp) (.int .i64 f.b)).set (i := 3) (by simp) (.int .i64 f.c)).set (i := 4) (by simp) (.string f.d)).set (i := 5) (by simp) (.slice ra f.rs.length rc))
  have B6 : Hid (Below w.heap.size w ((((((w2.setCell ⟨w.heap.size, 0, none⟩ (.int .i64 f.k)).setCell ⟨w.heap.size, 1, none⟩ (.int .i64 f.a)).setCell ⟨w.heap.size, 2, none⟩ (.int .i64 f.b)).setCell ⟨w.heap.size, 3, none⟩ (.int .i64 f.c)).setCell ⟨w.heap.size, 4, none⟩ (.string f.d)).setCell ⟨w.heap.size, 5, none⟩ (.slice ra f.rs.length rc))) := Lib.hid (Below.setCell (Below.setCell (Below.setCell (Below.setCell (Below.setCell (Below.setCell HB2.out (Nat.le_refl _) _) (Nat.le_refl _) _) (Nat.le_refl _) _) (Nat.le_refl _) _) (Nat.le_refl _) _) (Nat.le_refl _) _)
  have O6 : Hid (OwnRg ((((((w2.setCell ⟨w.heap.size, 0, none⟩ (.int .i64 f.k)).setCell ⟨w.heap.size, 1, none⟩ (.int .i64 f.a)).setCell ⟨w.heap.size, 2, none⟩ (.int .i64 f.b)).setCell ⟨w.heap.size, 3, none⟩ (.int .i64 f.c)).setCell ⟨w.heap.size, 4, none⟩ (.string f.d)).setCell ⟨w.heap.size, 5, none⟩ (.slice ra f.rs.length rc)) w.heap.size (.slice ra f.rs.length rc) f.rs) := Lib.hid (OwnRg.lower (own_far (own_far (own_far (own_far (own_far (own_far ho2 hne) hne) hne) hne) hne) hne) (by omega))
  have HF := Lib.hid hf
  clear hf hg2 hg2' hR hR2 ho2 hne F1 T1 F2 T2
  unfold frV
  go_wp2_with fail
  generalize ((((((w2.setCell ⟨w.heap.size, 0, none⟩ (.int .i64 f.k)).setCell ⟨w.heap.size, 1, none⟩ (.int .i64 f.a)).setCell ⟨w.heap.size, 2, none⟩ (.int .i64 f.b)).setCell ⟨w.heap.size, 3, none⟩ (.int .i64 f.c)).setCell ⟨w.heap.size, 4, none⟩ (.string f.d)).setCell ⟨w.heap.size, 5, none⟩ (.slice ra f.rs.length rc)) = W6 at *
  obtain ⟨s0, s1, s2, s3, s4, s5⟩ : W6.cell? ⟨w.heap.size, 0, none⟩ = some (.int .i64 f.k) ∧ W6.cell? ⟨w.heap.size, 1, none⟩ = some (.int .i64 f.a) ∧ W6.cell? ⟨w.heap.size, 2, none⟩ = some (.int .i64 f.b) ∧ W6.cell? ⟨w.heap.size, 3, none⟩ = some (.int .i64 f.c) ∧ W6.cell? ⟨w.heap.size, 4, none⟩ = some (.string f.d) ∧ W6.cell? ⟨w.heap.size, 5, none⟩ = some (.slice ra f.rs.length rc) := ⟨RC6.out 0, RC6.out 1, RC6.out 2, RC6.out 3, RC6.out 4, RC6.out 5⟩
  refine bodyPost_ret (v := frV f (.slice ra f.rs.length rc)) ?hr rfl ?_
  case hr => rw [results_cell_one rfl]; unfold frV; go_simp
  exact ⟨f, ra, rc, HF.out, rfl, B6.out, O6.out⟩

set_option maxRecDepth 100000 in
set_option maxHeartbeats 800000 in
theorem drawFVal_any (a : Option Addr) (len cap : Nat) (zs : List Int) (w : World) (h : IsRow .u8 w a len cap zs) :
    Calls Try.prog 23 #[.slice a len cap] w (GotFr w) := by
  have H := Lib.hid h
  clear h
  have B0 : Hid (Below w.heap.size w (w.alloc (.cells [Value.int .i64 0, .int .i64 0, .int .i64 0, .int .i64 0, .string ⟨#[]⟩, .slice none 0 0].toArray 25))) := Lib.hid ((Below.refl _ _).alloc (Nat.le_refl _) _)
  have F0 := Frm.new w 25 [.int .i64 0, .int .i64 0, .int .i64 0, .int .i64 0, .string ⟨#[]⟩, .slice none 0 0]
  have T0 := Thaw.new w 25 [.int .i64 0, .int .i64 0, .int .i64 0, .int .i64 0, .string ⟨#[]⟩, .slice none 0 0]
  have hs0 : (w.alloc (.cells [Value.int .i64 0, .int .i64 0, .int .i64 0, .int .i64 0, .string ⟨#[]⟩, .slice none 0 0].toArray 25)).heap.size = w.heap.size + 1 := by simp
  go_enter Try.func23, Try.ntmps23
  go_wp2_with fail
  refine (open_any a len cap zs _ (H.out.below B0.out)).mono ?_
  rintro e w1 ⟨rfl, hb, hR⟩
  rw [hs0] at hR
  have F1 := F0.below hb (by omega)
  have T1 := T0.below hb (by omega)
  have B1 := Lib.hid (B0.out.trans (hb.mono (by omega)))
  have hz1 : w.heap.size + 1 ≤ w1.heap.size := by have := hb.size; omega
  clear hb F0 T0
  go_wp2_with fail
  refine (frame_any _ 0 _ (by first | exact hR | simpa using hR) (by omega)).mono ?_
  rintro e w2 ⟨f, ra, rc, hf, rfl, hg2, hR2, ho2⟩
  have hg2' : w1.grownBy w2 (some (w.heap.size + 1)) := by first | exact hg2 | simpa using hg2
  have F2 := F1.grown (by simp) hg2' (by omega)
  have T2 := T1.grown (by omega) hg2' (by omega)
  have RC2 := Lib.hid F2
  have HB2 : Hid (Below w.heap.size w w2) := Lib.hid (B1.out.grown hg2' B1.out.size (fun j hj => by injection hj with hj; omega))
  have hne : ∀ x, (Value.slice ra f.rs.length rc).ownBlock = some x → w.heap.size ≠ x := fun x hx => by have := (World.ownsRow.lt ho2 x hx).1; omega
  obtain ⟨r0, r1, r2, r3, r4, r5⟩ : w2.cell? ⟨w.heap.size, 0, none⟩ = some (.int .i64 0) ∧ w2.cell? ⟨w.heap.size, 1, none⟩ = some (.int .i64 0) ∧ w2.cell? ⟨w.heap.size, 2, none⟩ = some (.int .i64 0) ∧ w2.cell? ⟨w.heap.size, 3, none⟩ = some (.int .i64 0) ∧ w2.cell? ⟨w.heap.size, 4, none⟩ = some (.string ⟨#[]⟩) ∧ w2.cell? ⟨w.heap.size, 5, none⟩ = some (.slice none 0 0) := ⟨F2 0, F2 1, F2 2, F2 3, F2 4, F2 5⟩
  obtain ⟨t0, t1, t2, t3, t4, t5⟩ : w2.frozen? ⟨w.heap.size, 0, none⟩ = false ∧ w2.frozen? ⟨w.heap.size, 1, none⟩ = false ∧ w2.frozen? ⟨w.heap.size, 2, none⟩ = false ∧ w2.frozen? ⟨w.heap.size, 3, none⟩ = false ∧ w2.frozen? ⟨w.heap.size, 4, none⟩ = false ∧ w2.frozen? ⟨w.heap.size, 5, none⟩ = false := ⟨T2 0, T2 1, T2 2, T2 3, T2 4, T2 5⟩
  have RC6 : Hid (Frm ((((((w2.setCell ⟨w.heap.size, 0, none⟩ (.int .i64 f.k)).setCell ⟨w.heap.size, 1, none⟩ (.int .i64 f.a)).setCell ⟨w.heap.size, 2, none⟩ (.int .i64 f.b)).setCell ⟨w.heap.size, 3, none⟩ (.int .i64 f.c)).setCell ⟨w.heap.size, 4, none⟩ (.string f.d)).setCell ⟨w.heap.size, 5, none⟩ (.slice ra f.rs.length rc)) w.heap.size [.int .i64 f.k, .int .i64 f.a, .int .i64 f.b, .int .i64 f.c, .string f.d, .slice ra f.rs.length rc]) := Lib.hid ((((((RC2.out.set (i := 0) (by simp) (.int .i64 f.k)).set (i := 1) (by simp) (.int .i64 f.a)).set (i := 2) (by simp) (.int .i64 f.b)).set (i := 3) (by simp) (.int .i64 f.c)).set (i := 4) (by simp) (.string f.d)).set (i := 5) (by simp) (.slice ra f.rs.length rc))
  have B6 : Hid (Below w.heap.size w ((((((w2.setCell ⟨w.heap.size, 0, none⟩ (.int .i64 f.k)).setCell ⟨w.heap.size, 1, none⟩ (.int .i64 f.a)).setCell ⟨w.heap.size, 2, none⟩ (.int .i64 f.b)).setCell ⟨w.heap.size, 3, none⟩ (.int .i64 f.c)).setCell ⟨w.heap.size, 4, none⟩ (.string f.d)).setCell ⟨w.heap.size, 5, none⟩ (.slice ra f.rs.length rc))) := Lib.hid (Below.setCell (Below.setCell (Below.setCell (Below.setCell (Below.setCell (Below.setCell HB2.out (Nat.le_refl _) _) (Nat.le_refl _) _) (Nat.le_refl _) _) (Nat.le_refl _) _) (Nat.le_refl _) _) (Nat.le_refl _) _)
  have O6 : Hid (OwnRg ((((((w2.setCell ⟨w.heap.size, 0, none⟩ (.int .i64 f.k)).setCell ⟨w.heap.size, 1, none⟩ (.int .i64 f.a)).setCell ⟨w.heap.size, 2, none⟩ (.int .i64 f.b)).setCell ⟨w.heap.size, 3, none⟩ (.int .i64 f.c)).setCell ⟨w.heap.size, 4, none⟩ (.string f.d)).setCell ⟨w.heap.size, 5, none⟩ (.slice ra f.rs.length rc)) w.heap.size (.slice ra f.rs.length rc) f.rs) := Lib.hid (OwnRg.lower (own_far (own_far (own_far (own_far (own_far (own_far ho2 hne) hne) hne) hne) hne) hne) (by omega))
  have HF := Lib.hid hf
  clear hf hg2 hg2' hR hR2 ho2 hne F1 T1 F2 T2
  unfold frV
  go_wp2_with fail
  generalize ((((((w2.setCell ⟨w.heap.size, 0, none⟩ (.int .i64 f.k)).setCell ⟨w.heap.size, 1, none⟩ (.int .i64 f.a)).setCell ⟨w.heap.size, 2, none⟩ (.int .i64 f.b)).setCell ⟨w.heap.size, 3, none⟩ (.int .i64 f.c)).setCell ⟨w.heap.size, 4, none⟩ (.string f.d)).setCell ⟨w.heap.size, 5, none⟩ (.slice ra f.rs.length rc)) = W6 at *
  obtain ⟨s0, s1, s2, s3, s4, s5⟩ : W6.cell? ⟨w.heap.size, 0, none⟩ = some (.int .i64 f.k) ∧ W6.cell? ⟨w.heap.size, 1, none⟩ = some (.int .i64 f.a) ∧ W6.cell? ⟨w.heap.size, 2, none⟩ = some (.int .i64 f.b) ∧ W6.cell? ⟨w.heap.size, 3, none⟩ = some (.int .i64 f.c) ∧ W6.cell? ⟨w.heap.size, 4, none⟩ = some (.string f.d) ∧ W6.cell? ⟨w.heap.size, 5, none⟩ = some (.slice ra f.rs.length rc) := ⟨RC6.out 0, RC6.out 1, RC6.out 2, RC6.out 3, RC6.out 4, RC6.out 5⟩
  refine bodyPost_ret (v := frV f (.slice ra f.rs.length rc)) ?hr rfl ?_
  case hr => rw [results_cell_one rfl]; unfold frV; go_simp
  exact ⟨f, ra, rc, HF.out, rfl, B6.out, O6.out⟩

set_option maxRecDepth 100000 in
set_option maxHeartbeats 800000 in
theorem drawFEli_any (a : Option Addr) (len cap : Nat) (zs : List Int) (w : World) (h : IsRow .u8 w a len cap zs) :
    Calls Try.prog 32 #[.slice a len cap] w (GotFr w) := by
  have H := Lib.hid h
  clear h
  have B0 : Hid (Below w.heap.size w (w.alloc (.cells [Value.int .i64 0, .int .i64 0, .int .i64 0, .int .i64 0, .string ⟨#[]⟩, .slice none 0 0].toArray 25))) := Lib.hid ((Below.refl _ _).alloc (Nat.le_refl _) _)
  have F0 := Frm.new w 25 [.int .i64 0, .int .i64 0, .int .i64 0, .int .i64 0, .string ⟨#[]⟩, .slice none 0 0]
  have T0 := Thaw.new w 25 [.int .i64 0, .int .i64 0, .int .i64 0, .int .i64 0, .string ⟨#[]⟩, .slice none 0 0]
  have hs0 : (w.alloc (.cells [Value.int .i64 0, .int .i64 0, .int .i64 0, .int .i64 0, .string ⟨#[]⟩, .slice none 0 0].toArray 25)).heap.size = w.heap.size + 1 := by simp
  go_enter Try.func32, Try.ntmps32
  go_wp2_with fail
  refine (open_any a len cap zs _ (H.out.below B0.out)).mono ?_
  rintro e w1 ⟨rfl, hb, hR⟩
  rw [hs0] at hR
  have F1 := F0.below hb (by omega)
  have T1 := T0.below hb (by omega)
  have B1 := Lib.hid (B0.out.trans (hb.mono (by omega)))
  have hz1 : w.heap.size + 1 ≤ w1.heap.size := by have := hb.size; omega
  clear hb F0 T0
  go_wp2_with fail
  refine (frame_any _ 0 _ (by first | exact hR | simpa using hR) (by omega)).mono ?_
  rintro e w2 ⟨f, ra, rc, hf, rfl, hg2, hR2, ho2⟩
  have hg2' : w1.grownBy w2 (some (w.heap.size + 1)) := by first | exact hg2 | simpa using hg2
  have F2 := F1.grown (by simp) hg2' (by omega)
  have T2 := T1.grown (by omega) hg2' (by omega)
  have RC2 := Lib.hid F2
  have HB2 : Hid (Below w.heap.size w w2) := Lib.hid (B1.out.grown hg2' B1.out.size (fun j hj => by injection hj with hj; omega))
  have hne : ∀ x, (Value.slice ra f.rs.length rc).ownBlock = some x → w.heap.size ≠ x := fun x hx => by have := (World.ownsRow.lt ho2 x hx).1; omega
  obtain ⟨r0, r1, r2, r3, r4, r5⟩ : w2.cell? ⟨w.heap.size, 0, none⟩ = some (.int .i64 0) ∧ w2.cell? ⟨w.heap.size, 1, none⟩ = some (.int .i64 0) ∧ w2.cell? ⟨w.heap.size, 2, none⟩ = some (.int .i64 0) ∧ w2.cell? ⟨w.heap.size, 3, none⟩ = some (.int .i64 0) ∧ w2.cell? ⟨w.heap.size, 4, none⟩ = some (.string ⟨#[]⟩) ∧ w2.cell? ⟨w.heap.size, 5, none⟩ = some (.slice none 0 0) := ⟨F2 0, F2 1, F2 2, F2 3, F2 4, F2 5⟩
  obtain ⟨t0, t1, t2, t3, t4, t5⟩ : w2.frozen? ⟨w.heap.size, 0, none⟩ = false ∧ w2.frozen? ⟨w.heap.size, 1, none⟩ = false ∧ w2.frozen? ⟨w.heap.size, 2, none⟩ = false ∧ w2.frozen? ⟨w.heap.size, 3, none⟩ = false ∧ w2.frozen? ⟨w.heap.size, 4, none⟩ = false ∧ w2.frozen? ⟨w.heap.size, 5, none⟩ = false := ⟨T2 0, T2 1, T2 2, T2 3, T2 4, T2 5⟩
  have RC6 : Hid (Frm ((((((w2.setCell ⟨w.heap.size, 0, none⟩ (.int .i64 f.k)).setCell ⟨w.heap.size, 1, none⟩ (.int .i64 f.a)).setCell ⟨w.heap.size, 2, none⟩ (.int .i64 f.b)).setCell ⟨w.heap.size, 3, none⟩ (.int .i64 f.c)).setCell ⟨w.heap.size, 4, none⟩ (.string f.d)).setCell ⟨w.heap.size, 5, none⟩ (.slice ra f.rs.length rc)) w.heap.size [.int .i64 f.k, .int .i64 f.a, .int .i64 f.b, .int .i64 f.c, .string f.d, .slice ra f.rs.length rc]) := Lib.hid ((((((RC2.out.set (i := 0) (by simp) (.int .i64 f.k)).set (i := 1) (by simp) (.int .i64 f.a)).set (i := 2) (by simp) (.int .i64 f.b)).set (i := 3) (by simp) (.int .i64 f.c)).set (i := 4) (by simp) (.string f.d)).set (i := 5) (by simp) (.slice ra f.rs.length rc))
  have B6 : Hid (Below w.heap.size w ((((((w2.setCell ⟨w.heap.size, 0, none⟩ (.int .i64 f.k)).setCell ⟨w.heap.size, 1, none⟩ (.int .i64 f.a)).setCell ⟨w.heap.size, 2, none⟩ (.int .i64 f.b)).setCell ⟨w.heap.size, 3, none⟩ (.int .i64 f.c)).setCell ⟨w.heap.size, 4, none⟩ (.string f.d)).setCell ⟨w.heap.size, 5, none⟩ (.slice ra f.rs.length rc))) := Lib.hid (Below.setCell (Below.setCell (Below.setCell (Below.setCell (Below.setCell (Below.setCell HB2.out (Nat.le_refl _) _) (Nat.le_refl _) _) (Nat.le_refl _) _) (Nat.le_refl _) _) (Nat.le_refl _) _) (Nat.le_refl _) _)
  have O6 : Hid (OwnRg ((((((w2.setCell ⟨w.heap.size, 0, none⟩ (.int .i64 f.k)).setCell ⟨w.heap.size, 1, none⟩ (.int .i64 f.a)).setCell ⟨w.heap.size, 2, none⟩ (.int .i64 f.b)).setCell ⟨w.heap.size, 3, none⟩ (.int .i64 f.c)).setCell ⟨w.heap.size, 4, none⟩ (.string f.d)).setCell ⟨w.heap.size, 5, none⟩ (.slice ra f.rs.length rc)) w.heap.size (.slice ra f.rs.length rc) f.rs) := Lib.hid (OwnRg.lower (own_far (own_far (own_far (own_far (own_far (own_far ho2 hne) hne) hne) hne) hne) hne) (by omega))
  have HF := Lib.hid hf
  clear hf hg2 hg2' hR hR2 ho2 hne F1 T1 F2 T2
  unfold frV
  go_wp2_with fail
  generalize ((((((w2.setCell ⟨w.heap.size, 0, none⟩ (.int .i64 f.k)).setCell ⟨w.heap.size, 1, none⟩ (.int .i64 f.a)).setCell ⟨w.heap.size, 2, none⟩ (.int .i64 f.b)).setCell ⟨w.heap.size, 3, none⟩ (.int .i64 f.c)).setCell ⟨w.heap.size, 4, none⟩ (.string f.d)).setCell ⟨w.heap.size, 5, none⟩ (.slice ra f.rs.length rc)) = W6 at *
  obtain ⟨s0, s1, s2, s3, s4, s5⟩ : W6.cell? ⟨w.heap.size, 0, none⟩ = some (.int .i64 f.k) ∧ W6.cell? ⟨w.heap.size, 1, none⟩ = some (.int .i64 f.a) ∧ W6.cell? ⟨w.heap.size, 2, none⟩ = some (.int .i64 f.b) ∧ W6.cell? ⟨w.heap.size, 3, none⟩ = some (.int .i64 f.c) ∧ W6.cell? ⟨w.heap.size, 4, none⟩ = some (.string f.d) ∧ W6.cell? ⟨w.heap.size, 5, none⟩ = some (.slice ra f.rs.length rc) := ⟨RC6.out 0, RC6.out 1, RC6.out 2, RC6.out 3, RC6.out 4, RC6.out 5⟩
  refine bodyPost_ret (v := frV f (.slice ra f.rs.length rc)) ?hr rfl ?_
  case hr => rw [results_cell_one rfl]; unfold frV; go_simp
  exact ⟨f, ra, rc, HF.out, rfl, B6.out, O6.out⟩

end Go.Proofs.Ythflokonihegbaa
