/- The drawn texts of chapter 4: l91Good, l91Text, DrawFrameDecode. -/
import Derived.Test.YthflokonihegbaaSEnc
import Derived.Test.YthflokonihegbaaDrFrs
import Derived.Deep.DeepCutAuto
namespace Go.Proofs.Ythflokonihegbaa
open Go.RowKit
set_option linter.unusedVariables false
set_option linter.unusedSimpArgs false

theorem rdr_setr {w W : World} {b k i : Nat} {v : Value} (hb : b < w.heap.size) (h : w.grownBy W (some b) ∧ Rdr W b k) : w.grownBy (W.setCell ⟨w.heap.size, i, none⟩ v) (some b) ∧ Rdr (W.setCell ⟨w.heap.size, i, none⟩ v) b k := grow1 hb h
/-- To stop the walk ahead of a store. -/
theorem at_store {P : Program} {ops : Array Oper} {Q : Exit → Act → World → Prop} {rest : List Oper} {a : Act} {w : World} {d : Option Tmp} {t u : TypeId} {x y : Operand} {p : String} {af : Array Edge} {gd : Option (Nat × Bool)}
    (h : Hid (wpList P ops Q (⟨d, .store t x y, u, p, af, gd⟩ :: rest) a w)) : wpList P ops Q (⟨d, .store t x y, u, p, af, gd⟩ :: rest) a w := h
theorem ping_ok : fok ⟨1, 0, 0, 0, ⟨#[]⟩, []⟩ = true := by decide

set_option maxRecDepth 100000 in
set_option maxHeartbeats 1000000 in
theorem good_any (b k : Nat) (w : World) (R : Rdr w b k) (hk : k ≤ 400000) :
    Calls Try.prog 69 #[.pointer (some ⟨b, 0, none⟩)] w (DrewFr (fun f => fok f = true) w b k 400) := by
  have hbl := R.1
  have B0 : Below w.heap.size w (w.alloc (.cells [Value.int .i64 0, .int .i64 0, .int .i64 0, .int .i64 0, .string ⟨#[]⟩, .slice none 0 0].toArray 25)) := (Below.refl _ _).alloc (Nat.le_refl _) _
  have F0 := Frm.new w 25 [.int .i64 0, .int .i64 0, .int .i64 0, .int .i64 0, .string ⟨#[]⟩, .slice none 0 0]
  have T0 := Thaw.new w 25 [.int .i64 0, .int .i64 0, .int .i64 0, .int .i64 0, .string ⟨#[]⟩, .slice none 0 0]
  have G0 := World.grownBy_alloc w (.cells [Value.int .i64 0, .int .i64 0, .int .i64 0, .int .i64 0, .string ⟨#[]⟩, .slice none 0 0].toArray 25) (some b)
  have R0 := R.below B0
  have hs0 : (w.alloc (.cells [Value.int .i64 0, .int .i64 0, .int .i64 0, .int .i64 0, .string ⟨#[]⟩, .slice none 0 0].toArray 25)).heap.size = w.heap.size + 1 := by simp
  go_enter Try.func69, Try.ntmps69
  go_wp2_with fail
  refine (frame_any b k _ R0 (by omega)).mono ?_
  rintro e w1 ⟨f, ra, rc, hf, rfl, hg1, hR1, ho1⟩
  have hz1 : w.heap.size + 1 ≤ w1.heap.size := by have := hg1.size; omega
  have BX : Below w1.heap.size w1 (w1.alloc (.cells #[.int .i64 f.k, .int .i64 f.a, .int .i64 f.b, .int .i64 f.c, .string f.d, .slice ra f.rs.length rc] 25)) := (Below.refl _ _).alloc (Nat.le_refl _) _
  have FX : Hid (Frm (w1.alloc (.cells #[.int .i64 f.k, .int .i64 f.a, .int .i64 f.b, .int .i64 f.c, .string f.d, .slice ra f.rs.length rc] 25)) w1.heap.size [.int .i64 f.k, .int .i64 f.a, .int .i64 f.b, .int .i64 f.c, .string f.d, .slice ra f.rs.length rc]) := Lib.hid (Frm.new w1 25 [.int .i64 f.k, .int .i64 f.a, .int .i64 f.b, .int .i64 f.c, .string f.d, .slice ra f.rs.length rc])
  have RC : Hid (Frm (w1.alloc (.cells #[.int .i64 f.k, .int .i64 f.a, .int .i64 f.b, .int .i64 f.c, .string f.d, .slice ra f.rs.length rc] 25)) w.heap.size [.int .i64 0, .int .i64 0, .int .i64 0, .int .i64 0, .string ⟨#[]⟩, .slice none 0 0]) := Lib.hid ((F0.grown (by simp) hg1 (by omega)).below BX (by omega))
  have RT : Hid (Thaw (w1.alloc (.cells #[.int .i64 f.k, .int .i64 f.a, .int .i64 f.b, .int .i64 f.c, .string f.d, .slice ra f.rs.length rc] 25)) w.heap.size) := Lib.hid ((T0.grown (by omega) hg1 (by omega)).below BX (by omega))
  have GR : Hid (w.grownBy (w1.alloc (.cells #[.int .i64 f.k, .int .i64 f.a, .int .i64 f.b, .int .i64 f.c, .string f.d, .slice ra f.rs.length rc] 25)) (some b) ∧ Rdr (w1.alloc (.cells #[.int .i64 f.k, .int .i64 f.a, .int .i64 f.b, .int .i64 f.c, .string f.d, .slice ra f.rs.length rc] 25)) b (k + 400)) := Lib.hid ⟨World.grownBy.trans (World.grownBy.trans G0 hg1) (World.grownBy_alloc _ _ _), hR1.below BX⟩
  have HO : Hid (OwnRg (w1.alloc (.cells #[.int .i64 f.k, .int .i64 f.a, .int .i64 f.b, .int .i64 f.c, .string f.d, .slice ra f.rs.length rc] 25)) (w.heap.size + 1) (.slice ra f.rs.length rc) f.rs) := Lib.hid (World.ownsRow.alloc (by rw [← hs0]; exact ho1) _)
  have hsA : (w1.alloc (.cells #[.int .i64 f.k, .int .i64 f.a, .int .i64 f.b, .int .i64 f.c, .string f.d, .slice ra f.rs.length rc] 25)).heap.size = w1.heap.size + 1 := by simp
  have hll : f.rs.length ≤ 1048576 ∧ f.d.size ≤ 2097152 := by unfold FrB at hf; omega
  have SV := Lib.hid (fun W h => sfok_any f (.slice ra f.rs.length rc) W h hll.1 hll.2)
  clear hf hg1 hR1 ho1 F0 T0 G0 R0 B0 hs0 BX hll
  unfold frV at SV ⊢
  go_wp2_with fail
  generalize (w1.alloc (.cells #[.int .i64 f.k, .int .i64 f.a, .int .i64 f.b, .int .i64 f.c, .string f.d, .slice ra f.rs.length rc] 25)) = W1 at *
  refine (SV.out _ (Rngs.of_own HO.out)).mono ?_
  rintro e w2 ⟨rfl, hb⟩
  have hz2 := hb.size
  have FY := FX.out.below hb (by omega)
  have RC2 := RC.out.below hb (by omega)
  have RT2 := RT.out.below hb (by omega)
  have HO2 : Hid (OwnRg w2 (w.heap.size + 1) (.slice ra f.rs.length rc) f.rs) := Lib.hid (own_below HO.out hb)
  have GR2 : Hid (w.grownBy w2 (some b) ∧ Rdr w2 b (k + 400)) := Lib.hid ⟨Lib.grownBy_below GR.out.1 hb, GR.out.2.below hb⟩
  have HNE : Hid (∀ x, (Value.slice ra f.rs.length rc).ownBlock = some x → w.heap.size ≠ x) := Lib.hid (fun x hx => by have := (World.ownsRow.lt HO.out x hx).1; omega)
  obtain ⟨t0, t1, t2, t3, t4, t5⟩ : w2.frozen? ⟨w.heap.size, 0, none⟩ = false ∧ w2.frozen? ⟨w.heap.size, 1, none⟩ = false ∧ w2.frozen? ⟨w.heap.size, 2, none⟩ = false ∧ w2.frozen? ⟨w.heap.size, 3, none⟩ = false ∧ w2.frozen? ⟨w.heap.size, 4, none⟩ = false ∧ w2.frozen? ⟨w.heap.size, 5, none⟩ = false := ⟨RT2 0, RT2 1, RT2 2, RT2 3, RT2 4, RT2 5⟩
  have RT2' := Lib.hid RT2
  clear hb RT2
  cases hok : fok f
  · have BX : Below w2.heap.size w2 (w2.alloc (.cells #[] 85)) := (Below.refl _ _).alloc (Nat.le_refl _) _
    have hlt : w.heap.size < w2.heap.size := by omega
    have RC3 := Lib.hid (RC2.below BX hlt)
    have RT3 : Hid (Thaw (w2.alloc (.cells #[] 85)) w.heap.size) := Lib.hid (RT2'.out.below BX hlt)
    have OR3 : Hid (OwnRg (w2.alloc (.cells #[] 85)) w2.heap.size (.slice (some ⟨w2.heap.size, 0, none⟩) 0 0) []) := Lib.hid (own_new 85 2 w2.heap.size w2 (Nat.le_refl _))
    have GR3 : Hid (w.grownBy (w2.alloc (.cells #[] 85)) (some b) ∧ Rdr (w2.alloc (.cells #[] 85)) b (k + 400)) := Lib.hid ⟨World.grownBy.trans GR2.out.1 (World.grownBy_alloc _ _ _), GR2.out.2.below BX⟩
    clear FY RC2 BX hok t0 t1 t2 t3 t4 t5
    go_wp2_with (with_reducible refine at_store ?_)
    refine unhold ?_
    generalize (w2.alloc (.cells #[] 85)) = W3 at *
    have RC6 : Hid (Frm ((((((W3.setCell ⟨w.heap.size, 0, none⟩ (.int .i64 1)).setCell ⟨w.heap.size, 1, none⟩ (.int .i64 0)).setCell ⟨w.heap.size, 2, none⟩ (.int .i64 0)).setCell ⟨w.heap.size, 3, none⟩ (.int .i64 0)).setCell ⟨w.heap.size, 4, none⟩ (.string ⟨#[]⟩)).setCell ⟨w.heap.size, 5, none⟩ (.slice (some ⟨w2.heap.size, 0, none⟩) 0 0)) w.heap.size [.int .i64 1, .int .i64 0, .int .i64 0, .int .i64 0, .string ⟨#[]⟩, .slice (some ⟨w2.heap.size, 0, none⟩) 0 0]) := Lib.hid ((((((RC3.out.set (i := 0) (by simp) (.int .i64 1)).set (i := 1) (by simp) (.int .i64 0)).set (i := 2) (by simp) (.int .i64 0)).set (i := 3) (by simp) (.int .i64 0)).set (i := 4) (by simp) (.string ⟨#[]⟩)).set (i := 5) (by simp) (.slice (some ⟨w2.heap.size, 0, none⟩) 0 0))
    have G6 : Hid (w.grownBy ((((((W3.setCell ⟨w.heap.size, 0, none⟩ (.int .i64 1)).setCell ⟨w.heap.size, 1, none⟩ (.int .i64 0)).setCell ⟨w.heap.size, 2, none⟩ (.int .i64 0)).setCell ⟨w.heap.size, 3, none⟩ (.int .i64 0)).setCell ⟨w.heap.size, 4, none⟩ (.string ⟨#[]⟩)).setCell ⟨w.heap.size, 5, none⟩ (.slice (some ⟨w2.heap.size, 0, none⟩) 0 0)) (some b) ∧ Rdr ((((((W3.setCell ⟨w.heap.size, 0, none⟩ (.int .i64 1)).setCell ⟨w.heap.size, 1, none⟩ (.int .i64 0)).setCell ⟨w.heap.size, 2, none⟩ (.int .i64 0)).setCell ⟨w.heap.size, 3, none⟩ (.int .i64 0)).setCell ⟨w.heap.size, 4, none⟩ (.string ⟨#[]⟩)).setCell ⟨w.heap.size, 5, none⟩ (.slice (some ⟨w2.heap.size, 0, none⟩) 0 0)) b (k + 400)) := Lib.hid (grow6 hbl GR3.out.1 GR3.out.2)
    have O6 : Hid (OwnRg ((((((W3.setCell ⟨w.heap.size, 0, none⟩ (.int .i64 1)).setCell ⟨w.heap.size, 1, none⟩ (.int .i64 0)).setCell ⟨w.heap.size, 2, none⟩ (.int .i64 0)).setCell ⟨w.heap.size, 3, none⟩ (.int .i64 0)).setCell ⟨w.heap.size, 4, none⟩ (.string ⟨#[]⟩)).setCell ⟨w.heap.size, 5, none⟩ (.slice (some ⟨w2.heap.size, 0, none⟩) 0 0)) w.heap.size (.slice (some ⟨w2.heap.size, 0, none⟩) 0 0) []) := Lib.hid (OwnRg.lower (own_far (own_far (own_far (own_far (own_far (own_far OR3.out (fun x hx => by injection hx with hx; simp only at hx; omega)) (fun x hx => by injection hx with hx; simp only at hx; omega)) (fun x hx => by injection hx with hx; simp only at hx; omega)) (fun x hx => by injection hx with hx; simp only at hx; omega)) (fun x hx => by injection hx with hx; simp only at hx; omega)) (fun x hx => by injection hx with hx; simp only at hx; omega)) (by omega))
    obtain ⟨r0, r1, r2, r3, r4, r5⟩ : W3.cell? ⟨w.heap.size, 0, none⟩ = some (.int .i64 0) ∧ W3.cell? ⟨w.heap.size, 1, none⟩ = some (.int .i64 0) ∧ W3.cell? ⟨w.heap.size, 2, none⟩ = some (.int .i64 0) ∧ W3.cell? ⟨w.heap.size, 3, none⟩ = some (.int .i64 0) ∧ W3.cell? ⟨w.heap.size, 4, none⟩ = some (.string ⟨#[]⟩) ∧ W3.cell? ⟨w.heap.size, 5, none⟩ = some (.slice none 0 0) := ⟨RC3.out 0, RC3.out 1, RC3.out 2, RC3.out 3, RC3.out 4, RC3.out 5⟩
    obtain ⟨t0, t1, t2, t3, t4, t5⟩ : W3.frozen? ⟨w.heap.size, 0, none⟩ = false ∧ W3.frozen? ⟨w.heap.size, 1, none⟩ = false ∧ W3.frozen? ⟨w.heap.size, 2, none⟩ = false ∧ W3.frozen? ⟨w.heap.size, 3, none⟩ = false ∧ W3.frozen? ⟨w.heap.size, 4, none⟩ = false ∧ W3.frozen? ⟨w.heap.size, 5, none⟩ = false := ⟨RT3.out 0, RT3.out 1, RT3.out 2, RT3.out 3, RT3.out 4, RT3.out 5⟩
    go_wp2_with fail
    generalize ((((((W3.setCell ⟨w.heap.size, 0, none⟩ (.int .i64 1)).setCell ⟨w.heap.size, 1, none⟩ (.int .i64 0)).setCell ⟨w.heap.size, 2, none⟩ (.int .i64 0)).setCell ⟨w.heap.size, 3, none⟩ (.int .i64 0)).setCell ⟨w.heap.size, 4, none⟩ (.string ⟨#[]⟩)).setCell ⟨w.heap.size, 5, none⟩ (.slice (some ⟨w2.heap.size, 0, none⟩) 0 0)) = W6 at *
    obtain ⟨s0, s1, s2, s3, s4, s5⟩ : W6.cell? ⟨w.heap.size, 0, none⟩ = some (.int .i64 1) ∧ W6.cell? ⟨w.heap.size, 1, none⟩ = some (.int .i64 0) ∧ W6.cell? ⟨w.heap.size, 2, none⟩ = some (.int .i64 0) ∧ W6.cell? ⟨w.heap.size, 3, none⟩ = some (.int .i64 0) ∧ W6.cell? ⟨w.heap.size, 4, none⟩ = some (.string ⟨#[]⟩) ∧ W6.cell? ⟨w.heap.size, 5, none⟩ = some (.slice (some ⟨w2.heap.size, 0, none⟩) 0 0) := ⟨RC6.out 0, RC6.out 1, RC6.out 2, RC6.out 3, RC6.out 4, RC6.out 5⟩
    refine bodyPost_ret (v := frV ⟨1, 0, 0, 0, ⟨#[]⟩, []⟩ (.slice (some ⟨w2.heap.size, 0, none⟩) 0 0)) ?hr rfl ?_
    case hr => rw [results_cell_one rfl]; unfold frV; go_simp
    exact ⟨⟨1, 0, 0, 0, ⟨#[]⟩, []⟩, some ⟨w2.heap.size, 0, none⟩, 0, ping_ok, rfl, G6.out.1, G6.out.2, O6.out⟩
  · have HOK := Lib.hid hok
    clear hok
    obtain ⟨a0, a1, a2, a3, a4, a5⟩ : w2.cell? ⟨w1.heap.size, 0, none⟩ = some (.int .i64 f.k) ∧ w2.cell? ⟨w1.heap.size, 1, none⟩ = some (.int .i64 f.a) ∧ w2.cell? ⟨w1.heap.size, 2, none⟩ = some (.int .i64 f.b) ∧ w2.cell? ⟨w1.heap.size, 3, none⟩ = some (.int .i64 f.c) ∧ w2.cell? ⟨w1.heap.size, 4, none⟩ = some (.string f.d) ∧ w2.cell? ⟨w1.heap.size, 5, none⟩ = some (.slice ra f.rs.length rc) := ⟨FY 0, FY 1, FY 2, FY 3, FY 4, FY 5⟩
    obtain ⟨r0, r1, r2, r3, r4, r5⟩ : w2.cell? ⟨w.heap.size, 0, none⟩ = some (.int .i64 0) ∧ w2.cell? ⟨w.heap.size, 1, none⟩ = some (.int .i64 0) ∧ w2.cell? ⟨w.heap.size, 2, none⟩ = some (.int .i64 0) ∧ w2.cell? ⟨w.heap.size, 3, none⟩ = some (.int .i64 0) ∧ w2.cell? ⟨w.heap.size, 4, none⟩ = some (.string ⟨#[]⟩) ∧ w2.cell? ⟨w.heap.size, 5, none⟩ = some (.slice none 0 0) := ⟨RC2 0, RC2 1, RC2 2, RC2 3, RC2 4, RC2 5⟩
    have RC3 := Lib.hid RC2
    have RC6 : Hid (Frm ((((((w2.setCell ⟨w.heap.size, 0, none⟩ (.int .i64 f.k)).setCell ⟨w.heap.size, 1, none⟩ (.int .i64 f.a)).setCell ⟨w.heap.size, 2, none⟩ (.int .i64 f.b)).setCell ⟨w.heap.size, 3, none⟩ (.int .i64 f.c)).setCell ⟨w.heap.size, 4, none⟩ (.string f.d)).setCell ⟨w.heap.size, 5, none⟩ (.slice ra f.rs.length rc)) w.heap.size [.int .i64 f.k, .int .i64 f.a, .int .i64 f.b, .int .i64 f.c, .string f.d, .slice ra f.rs.length rc]) := Lib.hid ((((((RC3.out.set (i := 0) (by simp) (.int .i64 f.k)).set (i := 1) (by simp) (.int .i64 f.a)).set (i := 2) (by simp) (.int .i64 f.b)).set (i := 3) (by simp) (.int .i64 f.c)).set (i := 4) (by simp) (.string f.d)).set (i := 5) (by simp) (.slice ra f.rs.length rc))
    have G6 : Hid (w.grownBy ((((((w2.setCell ⟨w.heap.size, 0, none⟩ (.int .i64 f.k)).setCell ⟨w.heap.size, 1, none⟩ (.int .i64 f.a)).setCell ⟨w.heap.size, 2, none⟩ (.int .i64 f.b)).setCell ⟨w.heap.size, 3, none⟩ (.int .i64 f.c)).setCell ⟨w.heap.size, 4, none⟩ (.string f.d)).setCell ⟨w.heap.size, 5, none⟩ (.slice ra f.rs.length rc)) (some b) ∧ Rdr ((((((w2.setCell ⟨w.heap.size, 0, none⟩ (.int .i64 f.k)).setCell ⟨w.heap.size, 1, none⟩ (.int .i64 f.a)).setCell ⟨w.heap.size, 2, none⟩ (.int .i64 f.b)).setCell ⟨w.heap.size, 3, none⟩ (.int .i64 f.c)).setCell ⟨w.heap.size, 4, none⟩ (.string f.d)).setCell ⟨w.heap.size, 5, none⟩ (.slice ra f.rs.length rc)) b (k + 400)) := Lib.hid (grow6 hbl GR2.out.1 GR2.out.2)
    have O6 : Hid (OwnRg ((((((w2.setCell ⟨w.heap.size, 0, none⟩ (.int .i64 f.k)).setCell ⟨w.heap.size, 1, none⟩ (.int .i64 f.a)).setCell ⟨w.heap.size, 2, none⟩ (.int .i64 f.b)).setCell ⟨w.heap.size, 3, none⟩ (.int .i64 f.c)).setCell ⟨w.heap.size, 4, none⟩ (.string f.d)).setCell ⟨w.heap.size, 5, none⟩ (.slice ra f.rs.length rc)) w.heap.size (.slice ra f.rs.length rc) f.rs) := Lib.hid (OwnRg.lower (own_far (own_far (own_far (own_far (own_far (own_far HO2.out HNE.out) HNE.out) HNE.out) HNE.out) HNE.out) HNE.out) (by omega))
    clear FY RC2
    go_wp2_with fail
    generalize ((((((w2.setCell ⟨w.heap.size, 0, none⟩ (.int .i64 f.k)).setCell ⟨w.heap.size, 1, none⟩ (.int .i64 f.a)).setCell ⟨w.heap.size, 2, none⟩ (.int .i64 f.b)).setCell ⟨w.heap.size, 3, none⟩ (.int .i64 f.c)).setCell ⟨w.heap.size, 4, none⟩ (.string f.d)).setCell ⟨w.heap.size, 5, none⟩ (.slice ra f.rs.length rc)) = W6 at *
    obtain ⟨s0, s1, s2, s3, s4, s5⟩ : W6.cell? ⟨w.heap.size, 0, none⟩ = some (.int .i64 f.k) ∧ W6.cell? ⟨w.heap.size, 1, none⟩ = some (.int .i64 f.a) ∧ W6.cell? ⟨w.heap.size, 2, none⟩ = some (.int .i64 f.b) ∧ W6.cell? ⟨w.heap.size, 3, none⟩ = some (.int .i64 f.c) ∧ W6.cell? ⟨w.heap.size, 4, none⟩ = some (.string f.d) ∧ W6.cell? ⟨w.heap.size, 5, none⟩ = some (.slice ra f.rs.length rc) := ⟨RC6.out 0, RC6.out 1, RC6.out 2, RC6.out 3, RC6.out 4, RC6.out 5⟩
    refine bodyPost_ret (v := frV f (.slice ra f.rs.length rc)) ?hr rfl ?_
    case hr => rw [results_cell_one rfl]; unfold frV; go_simp
    exact ⟨f, ra, rc, HOK.out, rfl, G6.out.1, G6.out.2, O6.out⟩

set_option maxRecDepth 100000 in
set_option maxHeartbeats 1000000 in
theorem pick_zero (b k : Nat) (w : World) (R : Rdr w b k) (hk : k ≤ 1000000) :
    Calls Try.prog 47 #[.pointer (some ⟨b, 0, none⟩), .int .i64 0] w fun e w' => e = .returned (.int .i64 0) ∧ w.grownBy w' (some b) ∧ Rdr w' b (k + 1) := by
  obtain ⟨h0, p, a, len, cap, zs, h1, hR, h2⟩ := R
  have hR' := hR
  obtain ⟨c0, c1, fr, row, far⟩ := hR
  have hg : w.grownBy (w.setCell ⟨b, 1, none⟩ (.int .i64 ((p : Int) + 1))) (some b) := Lib.grownBy_setCell w b 1 _
  have key : Rdr (w.setCell ⟨b, 1, none⟩ (.int .i64 ((p : Int) + 1))) b (k + 1) := by
    refine ⟨Nat.lt_of_lt_of_le h0 hg.size, p + 1, a, len, cap, zs, by omega, ⟨set_other w b _ _ _ (by simp) c0, ?_, ?_, ?_, far⟩, h2⟩
    · rw [World.cell?_setCell_same (h := c1)]; rfl
    · rw [World.frozen?_setCell]; exact fr
    · exact row.keep fun x hx hcp i v hv => hg.cell hv (by rw [add_block]; intro e; exact far x hx hcp (by injection e))
  have HG := Lib.hid hg
  have HK := Lib.hid key
  have hw : IntKind.i64.wrap ((p : Int) + 1) = (p : Int) + 1 := IntWalk.i64_in _ (by omega)
  clear hg key hR' row far h2
  go_enter Try.func47, Try.ntmps47
  go_wp2_with fail
  go_ret
  exact ⟨rfl, HG.out, HK.out⟩

set_option maxRecDepth 100000 in
set_option maxHeartbeats 1000000 in
theorem text_any (b k : Nat) (m : Nat) (w : World) (R : Rdr w b k) (hk : k ≤ 300000) (hm : m ≤ 4) :
    Calls Try.prog 46 #[.pointer (some ⟨b, 0, none⟩), .int .i64 (m : Int)] w (DrewStr (fun s => s.size ≤ 1300) w b k 3000) := by
  have hbl := R.1
  go_enter Try.func46, Try.ntmps46
  go_wp2_with fail
  go_loopw [5, 6] (fun ov iv wr => ∃ (j : Nat) (s : ByteArray), j ≤ m ∧ iv = .int .i64 (j : Int) ∧ ov = .string s ∧ s.size ≤ 160 * j ∧ Hid (Rdr wr b (k + 500 * j)) ∧ Hid (w.grownBy wr (some b))) (fun _ iv _ => m - (intOf iv).toNat)
  case atStart => exact ⟨0, ⟨#[]⟩, Nat.zero_le _, rfl, rfl, Nat.le_refl _, R, World.grownBy.refl _ _⟩
  case round =>
    obtain ⟨j, s, hj, rfl, rfl, hs, HR, HG⟩ := hrel
    have hwz := HG.out.size
    by_cases hlt : j < m
    · have hlt' : (j : Int) < (m : Int) := by omega
      go_wp2_with fail
      refine (good_any b _ _ HR.out (by omega)).mono ?_
      rintro e w1 ⟨f, ra, rc, hok, rfl, hg1, hR1, ho1⟩
      have SE := Lib.hid (fun W h => sfenc_any f (.slice ra f.rs.length rc) W h (by have := fok_bnd hok; omega) (by have := fok_bnd hok; omega))
      have HEZ : (fencS f).size ≤ 160 := by unfold fencS; rw [if_pos hok]; exact (fenc_size hok).2
      have HR1 := Lib.hid hR1
      have HG1 := Lib.hid (HG.out.trans hg1)
      have HO1 := Lib.hid (Rngs.of_own ho1)
      clear hok hg1 hR1 ho1
      generalize fencS f = t at *
      unfold frV at SE ⊢
      have hcat : ¬ 9223372036854775807 < s.size + t.size := by omega
      go_wp2_with fail
      refine (SE.out _ HO1.out).mono ?_
      rintro e w2 ⟨rfl, hb2⟩
      have HR2 := Lib.hid (HR1.out.below hb2)
      have HG2 := Lib.hid (Lib.grownBy_below HG1.out hb2)
      clear hb2
      go_wp2_with fail
      go_roundw
      case rel => exact ⟨j + 1, s ++ t, by omega, by go_num, rfl, by rw [size_app]; omega, Lib.hid (HR2.out.le (by omega)), HG2⟩
      case measure => simp [intOf]; omega
    · have hlt' : ¬ (j : Int) < (m : Int) := by omega
      have hs' : s.size ≤ 640 := by omega
      go_wp2_with fail
      refine (pick_rdr b _ _ _ HR.out (by omega) (by omega) (by omega)).mono ?_
      rintro e w1 ⟨x, hx, rfl, hg1, hR1⟩
      have HR1 := Lib.hid hR1
      have HG1 := Lib.hid (HG.out.trans hg1)
      clear hg1 hR1
      have hx6 : x = 0 ∨ x = 1 ∨ x = 2 ∨ 2 < x := by omega
      rcases hx6 with rfl | rfl | rfl | hx2
      · have w8 : IntKind.i64.wrap ((s.size : Int) + 1) = (s.size : Int) + 1 := IntWalk.i64_in _ (by omega)
        go_wp2_with fail
        refine (pick_rdr b _ _ _ HR1.out (by omega) (by omega) (by omega)).mono ?_
        rintro e w2 ⟨y, hy, rfl, hg2, hR2⟩
        have HR2 := Lib.hid hR2
        have HG2 := Lib.hid (HG1.out.trans hg2)
        have y0 : (0 : Int) ≤ (y : Int) := by omega
        have y1 : (y : Int) ≤ (s.size : Int) := by omega
        clear hg2 hR2
        go_wp2_with fail
        go_ret
        exact ⟨_, by simp; omega, rfl, HG2.out, HR2.out.le (by omega)⟩
      · have w8 : IntKind.i64.wrap ((s.size : Int) + 1) = (s.size : Int) + 1 := IntWalk.i64_in _ (by omega)
        go_wp2_with fail
        refine (pick_rdr b _ _ _ HR1.out (by omega) (by omega) (by omega)).mono ?_
        rintro e w2 ⟨y, hy, rfl, hg2, hR2⟩
        have HR2 := Lib.hid hR2
        have HG2 := Lib.hid (HG1.out.trans hg2)
        have y0 : (0 : Int) ≤ (y : Int) := by omega
        have y1 : (y : Int) ≤ (s.size : Int) := by omega
        clear hg2 hR2
        have cv := conv1
        have cvd : ∀ (W : World) (g : Nat) (a : Int), g = W.heap.size → (convert 22 9 (.slice (some ⟨g, 0, none⟩) 1 1)).run Try.prog (W.alloc (.cells #[.int .u8 a] 5)).drew = .ok (.string (strOfNums [a])) (W.alloc (.cells #[.int .u8 a] 5)).drew := fun W g a h => conv1 W.drew g a h
        have HRd := Lib.hid (HR2.out.below (Below.refl w2.heap.size w2).drew)
        have HGd := Lib.hid (Lib.grownBy_below HG2.out (Below.refl w2.heap.size w2).drew)
        obtain ⟨p1, hp1⟩ : ∃ p1, s.extract 0 y = p1 := ⟨_, rfl⟩
        obtain ⟨p2, hp2⟩ : ∃ p2, s.extract y s.size = p2 := ⟨_, rfl⟩
        have hp1s : p1.size ≤ 640 := by rw [← hp1]; simp; omega
        have hp2s : p2.size ≤ 640 := by rw [← hp2]; simp; omega
        go_wp2_with fail
        go_region_with
          (first
            | (go_at_call 47; refine (pick_rdr b _ _ _ HRd.out (by omega) (by omega) (by omega)).mono ?_; rintro e w3 ⟨z, hz, rfl, hg3, hR3⟩; have hzu : IntKind.u8.wrap (z : Int) = (z : Int) := IntWalk.u8_in _ ⟨by omega, by omega⟩; obtain ⟨p3, hp3⟩ : ∃ p3, strOfNums [(z : Int)] = p3 := ⟨_, rfl⟩; have hp3s : p3.size = 1 := hp3 ▸ strOfNums_size [(z : Int)]; have hc1 : ¬ 9223372036854775807 < p1.size + 1 := (by omega); have hc2 : ¬ 9223372036854775807 < p1.size + 1 + p2.size := (by omega); have HR3 := Lib.hid hR3; have HG3 := Lib.hid (HGd.out.trans hg3)))
        go_wp2_with fail
        go_ret
        exact ⟨p1 ++ p3 ++ p2, by show (p1 ++ p3 ++ p2).size ≤ 1300; rw [size_app, size_app]; omega, rfl, World.grownBy.trans HG3.out (World.grownBy_alloc _ _ _), (HR3.out.below ((Below.refl _ _).alloc (Nat.le_refl _) _)).le (by omega)⟩
      · by_cases hs0 : s.size = 0
        · have hs0' : ((s.size : Nat) : Int) = 0 := by omega
          go_wp2_with fail
          refine (pick_zero b _ _ HR1.out (by omega)).mono ?_
          rintro e w2 ⟨rfl, hg2, hR2⟩
          have HR2 := Lib.hid hR2
          have HG2 := Lib.hid (HG1.out.trans hg2)
          clear hg2 hR2
          go_wp2_with fail
          go_ret
          exact ⟨s, by omega, rfl, HG2.out, HR2.out.le (by omega)⟩
        · have hs1 : (0 : Int) < (s.size : Int) := by omega
          go_wp2_with fail
          refine (pick_rdr b _ _ _ HR1.out (by omega) (by omega) (by omega)).mono ?_
          rintro e w2 ⟨y, hy, rfl, hg2, hR2⟩
          have HR2 := Lib.hid hR2
          have HG2 := Lib.hid (HG1.out.trans hg2)
          have y0 : (0 : Int) ≤ (y : Int) := by omega
          have y1 : (y : Int) ≤ (s.size : Int) := by omega
          have y2 : (y : Int) + 1 ≤ (s.size : Int) := by omega
          have y3 : (0 : Int) ≤ (y : Int) + 1 := by omega
          have y4 : ((y : Int) + 1).toNat = y + 1 := by omega
          have y5 : IntKind.i64.wrap ((y : Int) + 1) = (y : Int) + 1 := IntWalk.i64_in _ (by omega)
          clear hg2 hR2
          have cv := conv1
          have cvd : ∀ (W : World) (g : Nat) (a : Int), g = W.heap.size → (convert 22 9 (.slice (some ⟨g, 0, none⟩) 1 1)).run Try.prog (W.alloc (.cells #[.int .u8 a] 5)).drew = .ok (.string (strOfNums [a])) (W.alloc (.cells #[.int .u8 a] 5)).drew := fun W g a h => conv1 W.drew g a h
          have HRd := Lib.hid (HR2.out.below (Below.refl w2.heap.size w2).drew)
          have HGd := Lib.hid (Lib.grownBy_below HG2.out (Below.refl w2.heap.size w2).drew)
          obtain ⟨p1, hp1⟩ : ∃ p1, s.extract 0 y = p1 := ⟨_, rfl⟩
          obtain ⟨p2, hp2⟩ : ∃ p2, s.extract (y + 1) s.size = p2 := ⟨_, rfl⟩
          have hp1s : p1.size ≤ 640 := by rw [← hp1]; simp; omega
          have hp2s : p2.size ≤ 640 := by rw [← hp2]; simp; omega
          go_wp2_with fail
          go_region_with
            (first
              | (go_at_call 47; refine (pick_rdr b _ _ _ HRd.out (by omega) (by omega) (by omega)).mono ?_; rintro e w3 ⟨z, hz, rfl, hg3, hR3⟩; have hzu : IntKind.u8.wrap (z : Int) = (z : Int) := IntWalk.u8_in _ ⟨by omega, by omega⟩; obtain ⟨p3, hp3⟩ : ∃ p3, strOfNums [(z : Int)] = p3 := ⟨_, rfl⟩; have hp3s : p3.size = 1 := hp3 ▸ strOfNums_size [(z : Int)]; have hc1 : ¬ 9223372036854775807 < p1.size + 1 := (by omega); have hc2 : ¬ 9223372036854775807 < p1.size + 1 + p2.size := (by omega); have HR3 := Lib.hid hR3; have HG3 := Lib.hid (HGd.out.trans hg3)))
          go_wp2_with fail
          go_ret
          exact ⟨p1 ++ p3 ++ p2, by show (p1 ++ p3 ++ p2).size ≤ 1300; rw [size_app, size_app]; omega, rfl, World.grownBy.trans HG3.out (World.grownBy_alloc _ _ _), (HR3.out.below ((Below.refl _ _).alloc (Nat.le_refl _) _)).le (by omega)⟩
      · have b0 : ((x : Int) == 0) = false := bne_of (by omega)
        have b1 : ((x : Int) == 1) = false := bne_of (by omega)
        have b2 : ((x : Int) == 2) = false := bne_of (by omega)
        go_wp2_with fail
        go_ret
        exact ⟨s, by omega, rfl, HG1.out, HR1.out.le (by omega)⟩

def GotTx (w : World) (e : Ending) (w' : World) : Prop := ∃ s : ByteArray, s.size ≤ 1300 ∧ e = .returned (.string s) ∧ Below w.heap.size w w'

set_option maxRecDepth 100000 in
set_option maxHeartbeats 1000000 in
theorem drawTDec_any (a : Option Addr) (len cap : Nat) (zs : List Int) (w : World) (h : IsRow .u8 w a len cap zs) :
    Calls Try.prog 20 #[.slice a len cap] w (GotTx w) := by
  have H := Lib.hid h
  clear h
  go_enter Try.func20, Try.ntmps20
  go_wp2_with fail
  refine (open_any a len cap zs w H.out).mono ?_
  rintro e w1 ⟨rfl, hb, hR⟩
  have B1 := Lib.hid hb
  clear hb
  go_wp2_with fail
  refine (pick_rdr _ _ _ _ hR (by omega) (by omega) (by omega)).mono ?_
  rintro e w2 ⟨x, hx, rfl, hg2, hR2⟩
  have HR2 := Lib.hid hR2
  have HG2 := Lib.hid hg2
  clear hg2 hR2 hR
  have hw : IntKind.i64.wrap (1 + (x : Int)) = 1 + (x : Int) := IntWalk.i64_in _ (by omega)
  have HT := Lib.hid (text_any _ _ (1 + x) w2 HR2.out (by omega) (by omega))
  rw [show ((1 + x : Nat) : Int) = 1 + (x : Int) by omega] at HT
  go_wp2_with fail
  refine HT.out.mono ?_
  rintro e w3 ⟨s, hs, rfl, hg3, hR3⟩
  have HB := Lib.hid (below_reader B1.out (HG2.out.trans hg3))
  clear hg3 hR3
  go_wp2_with fail
  go_ret
  exact ⟨s, hs, rfl, HB.out⟩

set_option maxRecDepth 100000 in
set_option maxHeartbeats 1000000 in
theorem drawTFs_any (a : Option Addr) (len cap : Nat) (zs : List Int) (w : World) (h : IsRow .u8 w a len cap zs) :
    Calls Try.prog 30 #[.slice a len cap] w (GotTx w) := by
  have H := Lib.hid h
  clear h
  go_enter Try.func30, Try.ntmps30
  go_wp2_with fail
  refine (open_any a len cap zs w H.out).mono ?_
  rintro e w1 ⟨rfl, hb, hR⟩
  have B1 := Lib.hid hb
  clear hb
  go_wp2_with fail
  refine (pick_rdr _ _ _ _ hR (by omega) (by omega) (by omega)).mono ?_
  rintro e w2 ⟨x, hx, rfl, hg2, hR2⟩
  have HR2 := Lib.hid hR2
  have HG2 := Lib.hid hg2
  clear hg2 hR2 hR
  have hw : IntKind.i64.wrap (1 + (x : Int)) = 1 + (x : Int) := IntWalk.i64_in _ (by omega)
  have HT := Lib.hid (text_any _ _ x w2 HR2.out (by omega) (by omega))
  skip
  go_wp2_with fail
  refine HT.out.mono ?_
  rintro e w3 ⟨s, hs, rfl, hg3, hR3⟩
  have HB := Lib.hid (below_reader B1.out (HG2.out.trans hg3))
  clear hg3 hR3
  go_wp2_with fail
  go_ret
  exact ⟨s, hs, rfl, HB.out⟩

end Go.Proofs.Ythflokonihegbaa
