/- szFrame, toFrame. -/
import Derived.Test.YthflokonihegbabSEnc
import Derived.Test.YthflokonihegbabFrm
import Derived.Test.YthflokonihegbabEqR4
import Derived.Test.YthflokonihegbabTo4
import Derived.Test.YthflokonihegbabIB
import Derived.Deep.DeepCutAuto
namespace Go.Proofs.Ythflokonihegbab
open Go.RowKit
set_option linter.unusedVariables false
set_option linter.unusedSimpArgs false

def szF (f : Fr) (left : Int) : Int := if left - (f.d.size : Int) < 0 then -1 else if left - (f.d.size : Int) < (f.rs.length : Int) then -1 else left - (f.d.size : Int) - (f.rs.length : Int)
set_option maxRecDepth 100000 in
set_option maxHeartbeats 1000000 in
theorem szfr_any (f : Fr) (ra : Option Addr) (rc : Nat) (left : Int) (w : World) (h0 : 0 ≤ left) (h1 : left ≤ 1048576) (hl : f.rs.length ≤ 9223372036854775807) (hd : f.d.size ≤ maxLen) :
    Calls Try.prog 9 #[frV f (.slice ra f.rs.length rc), .int .i64 left] w fun e w' => e = .returned (.int .i64 (szF f left)) ∧ Below w.heap.size w w' := by
  unfold frV
  unfold maxLen at hd
  have v1 : IntKind.i64.wrap (left - (f.d.size : Int)) = left - (f.d.size : Int) := IntWalk.i64_in _ (by omega)
  by_cases hneg : left - (f.d.size : Int) < 0
  · have HZ : Hid (szF f left = -1) := Lib.hid (if_pos hneg)
    go_enter Try.func9, Try.ntmps9
    go_wp2_with fail
    go_ret
    exact ⟨ret_int HZ.out.symm, (Below.refl _ _).alloc (Nat.le_refl _) _⟩
  · have HS := Lib.hid (fun W => sz_any ra f.rs.length rc (left - (f.d.size : Int)) W (by omega) (by omega) hl)
    have HZ : Hid (szF f left = (if left - (f.d.size : Int) < (f.rs.length : Int) then -1 else left - (f.d.size : Int) - (f.rs.length : Int))) := Lib.hid (if_neg hneg)
    by_cases hn2 : left - (f.d.size : Int) < (f.rs.length : Int)
    · rw [if_pos hn2] at HS HZ
      clear hn2
      go_enter Try.func9, Try.ntmps9
      go_wp2_with fail
      refine (HS.out _).mono ?_
      rintro e w' ⟨rfl, rfl⟩
      go_wp2_with fail
      go_ret
      exact ⟨ret_int HZ.out.symm, (Below.refl _ _).alloc (Nat.le_refl _) _⟩
    · rw [if_neg hn2] at HS HZ
      have hn3 : ¬ left - (f.d.size : Int) - (f.rs.length : Int) < 0 := by omega
      clear hn2
      go_enter Try.func9, Try.ntmps9
      go_wp2_with fail
      refine (HS.out _).mono ?_
      rintro e w' ⟨rfl, rfl⟩
      go_wp2_with fail
      go_ret
      exact ⟨ret_int HZ.out.symm, (Below.refl _ _).alloc (Nat.le_refl _) _⟩

set_option maxRecDepth 100000 in
set_option maxHeartbeats 1000000 in
theorem tofr_any (f : Fr) (ra : Option Addr) (rc : Nat) (w : World) (h : Rngs w (.slice ra f.rs.length rc) f.rs) (hl : f.rs.length ≤ 1048576) :
    Calls Try.prog 11 #[frV f (.slice ra f.rs.length rc)] w fun e w' => ∃ a c, e = .returned (frV f (.slice a f.rs.length c)) ∧ Below w.heap.size w w' ∧ OwnRg w' w.heap.size (.slice a f.rs.length c) f.rs := by
  have H := Lib.hid h
  clear h
  have HT := Lib.hid (fun W h => tors_any (.slice ra f.rs.length rc) f.rs W h hl)
  unfold frV
  go_enter Try.func11, Try.ntmps11
  have FO : Hid (Frm (((w.alloc (.cells #[.int .i64 f.k, .int .i64 f.a, .int .i64 f.b, .int .i64 f.c, .string f.d, .slice ra f.rs.length rc] 24)).alloc (.cells #[.int .i64 0, .int .i64 0, .int .i64 0, .int .i64 0, .string ⟨#[]⟩, .slice none 0 0] 29)).alloc (.cells #[.int .i64 f.k, .int .i64 f.a, .int .i64 f.b, .int .i64 f.c, .string f.d, .slice none 0 0] 29)) (w.heap.size + 1 + 1) [.int .i64 f.k, .int .i64 f.a, .int .i64 f.b, .int .i64 f.c, .string f.d, .slice none 0 0] ∧ Thaw (((w.alloc (.cells #[.int .i64 f.k, .int .i64 f.a, .int .i64 f.b, .int .i64 f.c, .string f.d, .slice ra f.rs.length rc] 24)).alloc (.cells #[.int .i64 0, .int .i64 0, .int .i64 0, .int .i64 0, .string ⟨#[]⟩, .slice none 0 0] 29)).alloc (.cells #[.int .i64 f.k, .int .i64 f.a, .int .i64 f.b, .int .i64 f.c, .string f.d, .slice none 0 0] 29)) (w.heap.size + 1 + 1) ∧ Frm (((w.alloc (.cells #[.int .i64 f.k, .int .i64 f.a, .int .i64 f.b, .int .i64 f.c, .string f.d, .slice ra f.rs.length rc] 24)).alloc (.cells #[.int .i64 0, .int .i64 0, .int .i64 0, .int .i64 0, .string ⟨#[]⟩, .slice none 0 0] 29)).alloc (.cells #[.int .i64 f.k, .int .i64 f.a, .int .i64 f.b, .int .i64 f.c, .string f.d, .slice none 0 0] 29)) (w.heap.size + 1) [.int .i64 0, .int .i64 0, .int .i64 0, .int .i64 0, .string ⟨#[]⟩, .slice none 0 0] ∧ Thaw (((w.alloc (.cells #[.int .i64 f.k, .int .i64 f.a, .int .i64 f.b, .int .i64 f.c, .string f.d, .slice ra f.rs.length rc] 24)).alloc (.cells #[.int .i64 0, .int .i64 0, .int .i64 0, .int .i64 0, .string ⟨#[]⟩, .slice none 0 0] 29)).alloc (.cells #[.int .i64 f.k, .int .i64 f.a, .int .i64 f.b, .int .i64 f.c, .string f.d, .slice none 0 0] 29)) (w.heap.size + 1) ∧ Below w.heap.size w (((w.alloc (.cells #[.int .i64 f.k, .int .i64 f.a, .int .i64 f.b, .int .i64 f.c, .string f.d, .slice ra f.rs.length rc] 24)).alloc (.cells #[.int .i64 0, .int .i64 0, .int .i64 0, .int .i64 0, .string ⟨#[]⟩, .slice none 0 0] 29)).alloc (.cells #[.int .i64 f.k, .int .i64 f.a, .int .i64 f.b, .int .i64 f.c, .string f.d, .slice none 0 0] 29)) ∧ (((w.alloc (.cells #[.int .i64 f.k, .int .i64 f.a, .int .i64 f.b, .int .i64 f.c, .string f.d, .slice ra f.rs.length rc] 24)).alloc (.cells #[.int .i64 0, .int .i64 0, .int .i64 0, .int .i64 0, .string ⟨#[]⟩, .slice none 0 0] 29)).alloc (.cells #[.int .i64 f.k, .int .i64 f.a, .int .i64 f.b, .int .i64 f.c, .string f.d, .slice none 0 0] 29)).heap.size = w.heap.size + 3) := Lib.hid (by
    have z1 : (w.alloc (.cells #[.int .i64 f.k, .int .i64 f.a, .int .i64 f.b, .int .i64 f.c, .string f.d, .slice ra f.rs.length rc] 24)).heap.size = w.heap.size + 1 := by simp
    have z2 : ((w.alloc (.cells #[.int .i64 f.k, .int .i64 f.a, .int .i64 f.b, .int .i64 f.c, .string f.d, .slice ra f.rs.length rc] 24)).alloc (.cells #[.int .i64 0, .int .i64 0, .int .i64 0, .int .i64 0, .string ⟨#[]⟩, .slice none 0 0] 29)).heap.size = w.heap.size + 1 + 1 := by simp
    have b3 : Below ((w.alloc (.cells #[.int .i64 f.k, .int .i64 f.a, .int .i64 f.b, .int .i64 f.c, .string f.d, .slice ra f.rs.length rc] 24)).alloc (.cells #[.int .i64 0, .int .i64 0, .int .i64 0, .int .i64 0, .string ⟨#[]⟩, .slice none 0 0] 29)).heap.size ((w.alloc (.cells #[.int .i64 f.k, .int .i64 f.a, .int .i64 f.b, .int .i64 f.c, .string f.d, .slice ra f.rs.length rc] 24)).alloc (.cells #[.int .i64 0, .int .i64 0, .int .i64 0, .int .i64 0, .string ⟨#[]⟩, .slice none 0 0] 29)) (((w.alloc (.cells #[.int .i64 f.k, .int .i64 f.a, .int .i64 f.b, .int .i64 f.c, .string f.d, .slice ra f.rs.length rc] 24)).alloc (.cells #[.int .i64 0, .int .i64 0, .int .i64 0, .int .i64 0, .string ⟨#[]⟩, .slice none 0 0] 29)).alloc (.cells #[.int .i64 f.k, .int .i64 f.a, .int .i64 f.b, .int .i64 f.c, .string f.d, .slice none 0 0] 29)) := (Below.refl _ _).alloc (Nat.le_refl _) _
    have g1 := Frm.new ((w.alloc (.cells #[.int .i64 f.k, .int .i64 f.a, .int .i64 f.b, .int .i64 f.c, .string f.d, .slice ra f.rs.length rc] 24)).alloc (.cells #[.int .i64 0, .int .i64 0, .int .i64 0, .int .i64 0, .string ⟨#[]⟩, .slice none 0 0] 29)) 29 [.int .i64 f.k, .int .i64 f.a, .int .i64 f.b, .int .i64 f.c, .string f.d, .slice none 0 0]
    have g2 := Thaw.new ((w.alloc (.cells #[.int .i64 f.k, .int .i64 f.a, .int .i64 f.b, .int .i64 f.c, .string f.d, .slice ra f.rs.length rc] 24)).alloc (.cells #[.int .i64 0, .int .i64 0, .int .i64 0, .int .i64 0, .string ⟨#[]⟩, .slice none 0 0] 29)) 29 [.int .i64 f.k, .int .i64 f.a, .int .i64 f.b, .int .i64 f.c, .string f.d, .slice none 0 0]
    have g3 := Frm.new (w.alloc (.cells #[.int .i64 f.k, .int .i64 f.a, .int .i64 f.b, .int .i64 f.c, .string f.d, .slice ra f.rs.length rc] 24)) 29 [.int .i64 0, .int .i64 0, .int .i64 0, .int .i64 0, .string ⟨#[]⟩, .slice none 0 0]
    have g4 := Thaw.new (w.alloc (.cells #[.int .i64 f.k, .int .i64 f.a, .int .i64 f.b, .int .i64 f.c, .string f.d, .slice ra f.rs.length rc] 24)) 29 [.int .i64 0, .int .i64 0, .int .i64 0, .int .i64 0, .string ⟨#[]⟩, .slice none 0 0]
    rw [z2] at g1 g2
    rw [z1] at g3 g4
    exact ⟨g1, g2, Frm.below g3 b3 (by omega), Thaw.below g4 b3 (by omega), ((((Below.refl w.heap.size w).alloc (Nat.le_refl _) _).alloc (by omega) _).trans (b3.mono (by omega))), by simp⟩)
  go_wp2_with fail
  generalize (((w.alloc (.cells #[.int .i64 f.k, .int .i64 f.a, .int .i64 f.b, .int .i64 f.c, .string f.d, .slice ra f.rs.length rc] 24)).alloc (.cells #[.int .i64 0, .int .i64 0, .int .i64 0, .int .i64 0, .string ⟨#[]⟩, .slice none 0 0] 29)).alloc (.cells #[.int .i64 f.k, .int .i64 f.a, .int .i64 f.b, .int .i64 f.c, .string f.d, .slice none 0 0] 29)) = W at *
  refine (HT.out _ (H.out.below FO.out.2.2.2.2.1)).mono ?_
  rintro e w1 ⟨v1, rfl, hb1, ho1, _⟩
  obtain ⟨a0, c0, rfl⟩ := ownsRow_shape ho1
  have hz := FO.out.2.2.2.2.2
  have hb1s := hb1.size
  have f1 := Frm.below FO.out.1 hb1 (by omega)
  have f2 := Thaw.below FO.out.2.1 hb1 (by omega)
  have f3 := Frm.below FO.out.2.2.1 hb1 (by omega)
  have f4 := Thaw.below FO.out.2.2.2.1 hb1 (by omega)
  have NE : Hid (∀ x, (Value.slice a0 f.rs.length c0).ownBlock = some x → w.heap.size + 1 + 1 ≠ x ∧ w.heap.size + 1 ≠ x) := Lib.hid (fun x hx => by have := (World.ownsRow.lt ho1 x hx).1; omega)
  have F1 := Lib.hid (f1.set (i := 5) (by simp) (.slice a0 f.rs.length c0))
  have T1 := Lib.hid (f2.set ⟨w.heap.size + 1 + 1, 5, none⟩ (.slice a0 f.rs.length c0))
  have hne21 : ¬ w.heap.size + 1 + 1 = w.heap.size + 1 := by omega
  have hne12 : ¬ w.heap.size + 1 = w.heap.size + 1 + 1 := by omega
  have F3 := Lib.hid (f3.far (i := 5) hne21 (.slice a0 f.rs.length c0))
  have T3 := Lib.hid (f4.set ⟨w.heap.size + 1 + 1, 5, none⟩ (.slice a0 f.rs.length c0))
  have B1 : Hid (Below w.heap.size w (w1.setCell ⟨w.heap.size + 1 + 1, 5, none⟩ (.slice a0 f.rs.length c0))) := Lib.hid ((FO.out.2.2.2.2.1.trans (hb1.mono FO.out.2.2.2.2.1.size)).setCell (by show w.heap.size ≤ w.heap.size + 1 + 1; omega) _)
  have O1 : Hid (OwnRg (w1.setCell ⟨w.heap.size + 1 + 1, 5, none⟩ (.slice a0 f.rs.length c0)) w.heap.size (.slice a0 f.rs.length c0) f.rs) := Lib.hid (own_far (OwnRg.lower ho1 (by omega)) (fun x hx => (NE.out x hx).1))
  obtain ⟨c5, t5⟩ : w1.cell? ⟨w.heap.size + 1 + 1, 5, none⟩ = some (.slice none 0 0) ∧ w1.frozen? ⟨w.heap.size + 1 + 1, 5, none⟩ = false := ⟨f1 5, f2 5⟩
  clear f1 f2 f3 f4 hb1 ho1
  go_upto_region 8 with fail
  have F1' : Hid (Frm (w1.setCell ⟨w.heap.size + 1 + 1, 5, none⟩ (.slice a0 f.rs.length c0)) (w.heap.size + 1 + 1) [.int .i64 f.k, .int .i64 f.a, .int .i64 f.b, .int .i64 f.c, .string f.d, .slice a0 f.rs.length c0]) := F1
  generalize (w1.setCell ⟨w.heap.size + 1 + 1, 5, none⟩ (.slice a0 f.rs.length c0)) = W1 at *
  obtain ⟨p0, p1, p2, p3, p4, p5⟩ : W1.cell? ⟨w.heap.size + 1 + 1, 0, none⟩ = some (.int .i64 f.k) ∧ W1.cell? ⟨w.heap.size + 1 + 1, 1, none⟩ = some (.int .i64 f.a) ∧ W1.cell? ⟨w.heap.size + 1 + 1, 2, none⟩ = some (.int .i64 f.b) ∧ W1.cell? ⟨w.heap.size + 1 + 1, 3, none⟩ = some (.int .i64 f.c) ∧ W1.cell? ⟨w.heap.size + 1 + 1, 4, none⟩ = some (.string f.d) ∧ W1.cell? ⟨w.heap.size + 1 + 1, 5, none⟩ = some (.slice a0 f.rs.length c0) := ⟨F1'.out 0, F1'.out 1, F1'.out 2, F1'.out 3, F1'.out 4, F1'.out 5⟩
  obtain ⟨r0, r1, r2, r3, r4, r5⟩ : W1.cell? ⟨w.heap.size + 1, 0, none⟩ = some (.int .i64 0) ∧ W1.cell? ⟨w.heap.size + 1, 1, none⟩ = some (.int .i64 0) ∧ W1.cell? ⟨w.heap.size + 1, 2, none⟩ = some (.int .i64 0) ∧ W1.cell? ⟨w.heap.size + 1, 3, none⟩ = some (.int .i64 0) ∧ W1.cell? ⟨w.heap.size + 1, 4, none⟩ = some (.string ⟨#[]⟩) ∧ W1.cell? ⟨w.heap.size + 1, 5, none⟩ = some (.slice none 0 0) := ⟨F3.out 0, F3.out 1, F3.out 2, F3.out 3, F3.out 4, F3.out 5⟩
  obtain ⟨t0, t1, t2, t3, t4, t5⟩ : W1.frozen? ⟨w.heap.size + 1, 0, none⟩ = false ∧ W1.frozen? ⟨w.heap.size + 1, 1, none⟩ = false ∧ W1.frozen? ⟨w.heap.size + 1, 2, none⟩ = false ∧ W1.frozen? ⟨w.heap.size + 1, 3, none⟩ = false ∧ W1.frozen? ⟨w.heap.size + 1, 4, none⟩ = false ∧ W1.frozen? ⟨w.heap.size + 1, 5, none⟩ = false := ⟨T3.out 0, T3.out 1, T3.out 2, T3.out 3, T3.out 4, T3.out 5⟩
  have RC6 : Hid (Frm ((((((W1.setCell ⟨w.heap.size + 1, 0, none⟩ (.int .i64 f.k)).setCell ⟨w.heap.size + 1, 1, none⟩ (.int .i64 f.a)).setCell ⟨w.heap.size + 1, 2, none⟩ (.int .i64 f.b)).setCell ⟨w.heap.size + 1, 3, none⟩ (.int .i64 f.c)).setCell ⟨w.heap.size + 1, 4, none⟩ (.string f.d)).setCell ⟨w.heap.size + 1, 5, none⟩ (.slice a0 f.rs.length c0)) (w.heap.size + 1) [.int .i64 f.k, .int .i64 f.a, .int .i64 f.b, .int .i64 f.c, .string f.d, .slice a0 f.rs.length c0]) := Lib.hid ((((((F3.out.set (i := 0) (by simp) (.int .i64 f.k)).set (i := 1) (by simp) (.int .i64 f.a)).set (i := 2) (by simp) (.int .i64 f.b)).set (i := 3) (by simp) (.int .i64 f.c)).set (i := 4) (by simp) (.string f.d)).set (i := 5) (by simp) (.slice a0 f.rs.length c0))
  have B6 : Hid (Below w.heap.size w ((((((W1.setCell ⟨w.heap.size + 1, 0, none⟩ (.int .i64 f.k)).setCell ⟨w.heap.size + 1, 1, none⟩ (.int .i64 f.a)).setCell ⟨w.heap.size + 1, 2, none⟩ (.int .i64 f.b)).setCell ⟨w.heap.size + 1, 3, none⟩ (.int .i64 f.c)).setCell ⟨w.heap.size + 1, 4, none⟩ (.string f.d)).setCell ⟨w.heap.size + 1, 5, none⟩ (.slice a0 f.rs.length c0))) := Lib.hid (Below.setCell (Below.setCell (Below.setCell (Below.setCell (Below.setCell (Below.setCell B1.out (Nat.le_succ _) _) (Nat.le_succ _) _) (Nat.le_succ _) _) (Nat.le_succ _) _) (Nat.le_succ _) _) (Nat.le_succ _) _)
  have O6 : Hid (OwnRg ((((((W1.setCell ⟨w.heap.size + 1, 0, none⟩ (.int .i64 f.k)).setCell ⟨w.heap.size + 1, 1, none⟩ (.int .i64 f.a)).setCell ⟨w.heap.size + 1, 2, none⟩ (.int .i64 f.b)).setCell ⟨w.heap.size + 1, 3, none⟩ (.int .i64 f.c)).setCell ⟨w.heap.size + 1, 4, none⟩ (.string f.d)).setCell ⟨w.heap.size + 1, 5, none⟩ (.slice a0 f.rs.length c0)) w.heap.size (.slice a0 f.rs.length c0) f.rs) := Lib.hid (own_far (own_far (own_far (own_far (own_far (own_far O1.out (fun x hx => (NE.out x hx).2)) (fun x hx => (NE.out x hx).2)) (fun x hx => (NE.out x hx).2)) (fun x hx => (NE.out x hx).2)) (fun x hx => (NE.out x hx).2)) (fun x hx => (NE.out x hx).2))
  clear c5
  go_wp2_with fail
  generalize ((((((W1.setCell ⟨w.heap.size + 1, 0, none⟩ (.int .i64 f.k)).setCell ⟨w.heap.size + 1, 1, none⟩ (.int .i64 f.a)).setCell ⟨w.heap.size + 1, 2, none⟩ (.int .i64 f.b)).setCell ⟨w.heap.size + 1, 3, none⟩ (.int .i64 f.c)).setCell ⟨w.heap.size + 1, 4, none⟩ (.string f.d)).setCell ⟨w.heap.size + 1, 5, none⟩ (.slice a0 f.rs.length c0)) = W6 at *
  obtain ⟨s0, s1, s2, s3, s4, s5⟩ : W6.cell? ⟨w.heap.size + 1, 0, none⟩ = some (.int .i64 f.k) ∧ W6.cell? ⟨w.heap.size + 1, 1, none⟩ = some (.int .i64 f.a) ∧ W6.cell? ⟨w.heap.size + 1, 2, none⟩ = some (.int .i64 f.b) ∧ W6.cell? ⟨w.heap.size + 1, 3, none⟩ = some (.int .i64 f.c) ∧ W6.cell? ⟨w.heap.size + 1, 4, none⟩ = some (.string f.d) ∧ W6.cell? ⟨w.heap.size + 1, 5, none⟩ = some (.slice a0 f.rs.length c0) := ⟨RC6.out 0, RC6.out 1, RC6.out 2, RC6.out 3, RC6.out 4, RC6.out 5⟩
  refine bodyPost_ret (v := frV f (.slice a0 f.rs.length c0)) ?hr rfl ?_
  case hr => rw [results_cell_1 rfl]; unfold frV; go_simp
  exact ⟨a0, c0, rfl, B6.out, O6.out⟩
end Go.Proofs.Ythflokonihegbab
