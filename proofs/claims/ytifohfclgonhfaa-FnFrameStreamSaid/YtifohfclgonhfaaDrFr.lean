/- The drawn frames: l91Frame. -/
import Derived.Test.YtifohfclgonhfaaDrData
import Derived.Test.YtifohfclgonhfaaDrawRg
import Derived.Test.YtifohfclgonhfaaSFr
import Derived.Deep.DeepCutAuto
import Derived.Deep.CutBlock
import Derived.Laws.ResultCell
namespace Go.Proofs.Ytifohfclgonhfaa
open Go.RowKit
set_option linter.unusedVariables false
set_option linter.unusedSimpArgs false

def FrB (f : Fr) : Prop := (-20000 ≤ f.k ∧ f.k ≤ 20000) ∧ (-20000 ≤ f.a ∧ f.a ≤ 20000) ∧ (-20000 ≤ f.b ∧ f.b ≤ 20000) ∧ (-20000 ≤ f.c ∧ f.c ≤ 20000) ∧ f.d.size ≤ 24 ∧ f.rs.length ≤ 17
def DrewFr (P : Fr → Prop) (w : World) (b k s : Nat) (e : Ending) (w' : World) : Prop :=
  ∃ (f : Fr) (a : Option Addr) (c : Nat), P f ∧ e = .returned (frV f (.slice a f.rs.length c)) ∧ w.grownBy w' (some b) ∧ Rdr w' b (k + s) ∧ OwnRg w' w.heap.size (.slice a f.rs.length c) f.rs

/-- The frame's block in the midst of the draw. -/
def Mid (w : World) (b k g r : Nat) (w' : World) : Prop :=
  ∃ (f : Fr) (a : Option Addr) (c : Nat), FrB f ∧ Frm w' g [.int .i64 f.k, .int .i64 f.a, .int .i64 f.b, .int .i64 f.c, .string f.d, .slice a f.rs.length c] ∧ Thaw w' g ∧ Frm w' r [.int .i64 0, .int .i64 0, .int .i64 0, .int .i64 0, .string ⟨#[]⟩, .slice none 0 0] ∧ Thaw w' r ∧ w.grownBy w' (some b) ∧ Rdr w' b k ∧ OwnRg w' w.heap.size (.slice a f.rs.length c) f.rs ∧ ∀ x, (Value.slice a f.rs.length c).ownBlock = some x → g ≠ x ∧ r ≠ x

theorem Mid.rdr {w w' : World} {b k g r : Nat} (h : Mid w b k g r w') : Rdr w' b k := by obtain ⟨f, a, c, _, _, _, _, _, _, h, _⟩ := h; exact h
theorem Mid.grown {w w' : World} {b k g r : Nat} (h : Mid w b k g r w') : w.grownBy w' (some b) := by obtain ⟨f, a, c, _, _, _, _, _, h, _⟩ := h; exact h
theorem Mid.le {w w' : World} {b k k' g r : Nat} (h : Mid w b k g r w') (hk : k ≤ k') : Mid w b k' g r w' := by
  obtain ⟨f, a, c, h1, h2, h3, h4, h5, h6, h7, h8⟩ := h
  exact ⟨f, a, c, h1, h2, h3, h4, h5, h6, h7.le hk, h8⟩
theorem Mid.at {w w' : World} {b k g r : Nat} (h : Mid w b k g r w') (i : Nat) (hi : i < 6) : ∃ v, w'.cell? ⟨g, i, none⟩ = some v ∧ w'.frozen? ⟨g, i, none⟩ = false := by
  obtain ⟨f, a, c, h1, h2, h3, h4, h5, h6, h7, h8⟩ := h
  have : i = 0 ∨ i = 1 ∨ i = 2 ∨ i = 3 ∨ i = 4 ∨ i = 5 := by omega
  rcases this with rfl | rfl | rfl | rfl | rfl | rfl <;> exact ⟨_, h2 _, h3 _⟩
theorem Frm.grown {w w' : World} {g b : Nat} {vs : List Value} (h : Frm w g vs) (hv : 0 < vs.length) (hg : w.grownBy w' (some b)) (hb : g ≠ b) : Frm w' g vs := fun i => by
  have hlt : g < w.heap.size := World.block_lt_of_cell? w _ ((h 0).trans (List.getElem?_eq_getElem hv))
  exact (World.grownBy.cell_far hg ⟨g, i, none⟩ hlt (by intro e; injection e with e; exact hb e)).trans (h i)
theorem Thaw.grown {w w' : World} {g b : Nat} (h : Thaw w g) (hlt : g < w.heap.size) (hg : w.grownBy w' (some b)) (hb : g ≠ b) : Thaw w' g := fun i =>
  (World.grownBy.frozen_far hg ⟨g, i, none⟩ hlt (by intro e; injection e with e; exact hb e)).trans (h i)
theorem Mid.pick {w w' w2 : World} {b k k' g r : Nat} (h : Mid w b k g r w') (hg : w'.grownBy w2 (some b)) (hR : Rdr w2 b k') (h1 : g ≠ b) (h2 : r ≠ b) (hb : b < w.heap.size) : Mid w b k' g r w2 := by
  obtain ⟨f, a, c, q1, q2, q3, q4, q5, q6, q7, q8, q9⟩ := h
  have l1 : g < w'.heap.size := World.block_lt_of_cell? w' _ (q2 0)
  have l2 : r < w'.heap.size := World.block_lt_of_cell? w' _ (q4 0)
  exact ⟨f, a, c, q1, q2.grown (by simp) hg h1, q3.grown l1 hg h1, q4.grown (by simp) hg h2, q5.grown l2 hg h2, q6.trans hg, hR, q8.picked hg hb, q9⟩
theorem Mid.cell {w w' : World} {b k g r i : Nat} {v : Value} (hb : b < w.heap.size) (hg : w.heap.size ≤ g) (hR : Rdr w' b k) (hG : w.grownBy w' (some b)) : Rdr (w'.setCell ⟨g, i, none⟩ v) b k ∧ w.grownBy (w'.setCell ⟨g, i, none⟩ v) (some b) := by
  have hs := Lib.grownBy_setCell w' g i v
  exact ⟨hR.grown hs (fun x hx => by injection hx with hx; omega), World.grownBy.andThen hG hs (fun j hj => by injection hj with hj; left; omega)⟩
theorem Mid.setK {w w' : World} {b k g r : Nat} (h : Mid w b k g r w') (y : Int) (hy : -20000 ≤ y ∧ y ≤ 20000) (hb : b < w.heap.size) (hg : w.heap.size ≤ g) (hgr : g ≠ r) : Mid w b k g r (w'.setCell ⟨g, 0, none⟩ (.int .i64 y)) := by
  obtain ⟨f, a, c, ⟨q1k, q1a, q1b, q1c, q1d⟩, q2, q3, q4, q5, q6, q7, q8, q9⟩ := h
  obtain ⟨m1, m2⟩ := Mid.cell (i := 0) (v := .int .i64 y) (r := r) hb hg q7 q6
  exact ⟨⟨y, f.a, f.b, f.c, f.d, f.rs⟩, a, c, ⟨hy, q1a, q1b, q1c, q1d⟩, q2.set (i := 0) (by simp) _, q3.set _ _, q4.far hgr _, q5.set _ _, m2, m1, own_far q8 (fun x hx => (q9 x hx).1), q9⟩
theorem Mid.setA {w w' : World} {b k g r : Nat} (h : Mid w b k g r w') (y : Int) (hy : -20000 ≤ y ∧ y ≤ 20000) (hb : b < w.heap.size) (hg : w.heap.size ≤ g) (hgr : g ≠ r) : Mid w b k g r (w'.setCell ⟨g, 1, none⟩ (.int .i64 y)) := by
  obtain ⟨f, a, c, ⟨q1k, q1a, q1b, q1c, q1d⟩, q2, q3, q4, q5, q6, q7, q8, q9⟩ := h
  obtain ⟨m1, m2⟩ := Mid.cell (i := 1) (v := .int .i64 y) (r := r) hb hg q7 q6
  exact ⟨⟨f.k, y, f.b, f.c, f.d, f.rs⟩, a, c, ⟨q1k, hy, q1b, q1c, q1d⟩, q2.set (i := 1) (by simp) _, q3.set _ _, q4.far hgr _, q5.set _ _, m2, m1, own_far q8 (fun x hx => (q9 x hx).1), q9⟩
theorem Mid.setB {w w' : World} {b k g r : Nat} (h : Mid w b k g r w') (y : Int) (hy : -20000 ≤ y ∧ y ≤ 20000) (hb : b < w.heap.size) (hg : w.heap.size ≤ g) (hgr : g ≠ r) : Mid w b k g r (w'.setCell ⟨g, 2, none⟩ (.int .i64 y)) := by
  obtain ⟨f, a, c, ⟨q1k, q1a, q1b, q1c, q1d⟩, q2, q3, q4, q5, q6, q7, q8, q9⟩ := h
  obtain ⟨m1, m2⟩ := Mid.cell (i := 2) (v := .int .i64 y) (r := r) hb hg q7 q6
  exact ⟨⟨f.k, f.a, y, f.c, f.d, f.rs⟩, a, c, ⟨q1k, q1a, hy, q1c, q1d⟩, q2.set (i := 2) (by simp) _, q3.set _ _, q4.far hgr _, q5.set _ _, m2, m1, own_far q8 (fun x hx => (q9 x hx).1), q9⟩
theorem Mid.setC {w w' : World} {b k g r : Nat} (h : Mid w b k g r w') (y : Int) (hy : -20000 ≤ y ∧ y ≤ 20000) (hb : b < w.heap.size) (hg : w.heap.size ≤ g) (hgr : g ≠ r) : Mid w b k g r (w'.setCell ⟨g, 3, none⟩ (.int .i64 y)) := by
  obtain ⟨f, a, c, ⟨q1k, q1a, q1b, q1c, q1d⟩, q2, q3, q4, q5, q6, q7, q8, q9⟩ := h
  obtain ⟨m1, m2⟩ := Mid.cell (i := 3) (v := .int .i64 y) (r := r) hb hg q7 q6
  exact ⟨⟨f.k, f.a, f.b, y, f.d, f.rs⟩, a, c, ⟨q1k, q1a, q1b, hy, q1d⟩, q2.set (i := 3) (by simp) _, q3.set _ _, q4.far hgr _, q5.set _ _, m2, m1, own_far q8 (fun x hx => (q9 x hx).1), q9⟩
theorem Mid.setD {w w' : World} {b k g r : Nat} (h : Mid w b k g r w') (y : ByteArray) (hy : y.size ≤ 24) (hb : b < w.heap.size) (hg : w.heap.size ≤ g) (hgr : g ≠ r) : Mid w b k g r (w'.setCell ⟨g, 4, none⟩ (.string y)) := by
  obtain ⟨f, a, c, ⟨q1k, q1a, q1b, q1c, q1d, q1r⟩, q2, q3, q4, q5, q6, q7, q8, q9⟩ := h
  obtain ⟨m1, m2⟩ := Mid.cell (i := 4) (v := .string y) (r := r) hb hg q7 q6
  exact ⟨⟨f.k, f.a, f.b, f.c, y, f.rs⟩, a, c, ⟨q1k, q1a, q1b, q1c, hy, q1r⟩, q2.set (i := 4) (by simp) _, q3.set _ _, q4.far hgr _, q5.set _ _, m2, m1, own_far q8 (fun x hx => (q9 x hx).1), q9⟩
theorem Mid.setR {w w' w0 : World} {b k g r : Nat} (h : Mid w b k g r w') {a : Option Addr} {c : Nat} {l : List (Int × Int)} (hl : l.length ≤ 17) (ho : OwnRg w' w0.heap.size (.slice a l.length c) l) (hw0 : g < w0.heap.size ∧ r < w0.heap.size ∧ w.heap.size ≤ w0.heap.size) (hb : b < w.heap.size) (hg : w.heap.size ≤ g) (hgr : g ≠ r) : Mid w b k g r (w'.setCell ⟨g, 5, none⟩ (.slice a l.length c)) := by
  obtain ⟨f, _, _, ⟨q1k, q1a, q1b, q1c, q1d, q1r⟩, q2, q3, q4, q5, q6, q7, q8, q9⟩ := h
  obtain ⟨m1, m2⟩ := Mid.cell (i := 5) (v := .slice a l.length c) (r := r) hb hg q7 q6
  have hne : ∀ x, (Value.slice a l.length c).ownBlock = some x → g ≠ x ∧ r ≠ x := fun x hx => by have := (World.ownsRow.lt ho x hx).1; omega
  exact ⟨⟨f.k, f.a, f.b, f.c, f.d, l⟩, a, c, ⟨q1k, q1a, q1b, q1c, q1d, hl⟩, q2.set (i := 5) (by simp) _, q3.set _ _, q4.far hgr _, q5.set _ _, m2, m1, OwnRg.lower (own_far ho (fun x hx => (hne x hx).1)) hw0.2.2, hne⟩
theorem Mid.lts {w w' : World} {b k g r : Nat} (h : Mid w b k g r w') : g < w'.heap.size ∧ r < w'.heap.size ∧ w.heap.size ≤ w'.heap.size := by
  obtain ⟨f, a, c, q1, q2, q3, q4, q5, q6, _⟩ := h
  exact ⟨World.block_lt_of_cell? w' _ (q2 0), World.block_lt_of_cell? w' _ (q4 0), q6.size⟩

theorem results_cell_one {fn : Func} {p : Tmp} {ty : TypeId} (h : fn.results = #[.cell p ty]) (tmps : Array Value) (P : Program) (w : World) :
    (results fn tmps).run P w = ((asAddr (tmps.getD p undef)).run P w).andThen fun a w₁ => (loadVar ty a).run P w₁ := by
  simp only [results, h]
  simp [Sem.run_bind, Result.andThen]
theorem grow1 {w W : World} {b k i : Nat} {v : Value} (hb : b < w.heap.size) (h : w.grownBy W (some b) ∧ Rdr W b k) : w.grownBy (W.setCell ⟨w.heap.size, i, none⟩ v) (some b) ∧ Rdr (W.setCell ⟨w.heap.size, i, none⟩ v) b k := by
  have := Mid.cell (i := i) (v := v) (r := 0) hb (Nat.le_refl _) h.2 h.1
  exact ⟨this.2, this.1⟩
theorem grow6 {w W : World} {b k : Nat} {v0 v1 v2 v3 v4 v5 : Value} (hb : b < w.heap.size) (h : w.grownBy W (some b)) (h2 : Rdr W b k) :
    w.grownBy ((((((W.setCell ⟨w.heap.size, 0, none⟩ v0).setCell ⟨w.heap.size, 1, none⟩ v1).setCell ⟨w.heap.size, 2, none⟩ v2).setCell ⟨w.heap.size, 3, none⟩ v3).setCell ⟨w.heap.size, 4, none⟩ v4).setCell ⟨w.heap.size, 5, none⟩ v5) (some b) ∧ Rdr ((((((W.setCell ⟨w.heap.size, 0, none⟩ v0).setCell ⟨w.heap.size, 1, none⟩ v1).setCell ⟨w.heap.size, 2, none⟩ v2).setCell ⟨w.heap.size, 3, none⟩ v3).setCell ⟨w.heap.size, 4, none⟩ v4).setCell ⟨w.heap.size, 5, none⟩ v5) b k :=
  grow1 hb (grow1 hb (grow1 hb (grow1 hb (grow1 hb (grow1 hb ⟨h, h2⟩)))))

set_option maxRecDepth 100000 in
set_option maxHeartbeats 4000000 in
theorem frame_any (b k : Nat) (w : World) (R : Rdr w b k) (hk : k ≤ 500000) :
    Calls Try.prog 40 #[.pointer (some ⟨b, 0, none⟩)] w (DrewFr FrB w b k 400) := by
  have hbl := R.1
  go_enter Try.func40, Try.ntmps40
  go_wp2_with fail
  have F0 := Frm.new w 25 [.int .i64 0, .int .i64 0, .int .i64 0, .int .i64 0, .string ⟨#[]⟩, .slice none 0 0]
  have T0 := Thaw.new w 25 [.int .i64 0, .int .i64 0, .int .i64 0, .int .i64 0, .string ⟨#[]⟩, .slice none 0 0]
  have G0 := World.grownBy_alloc w (.cells [Value.int .i64 0, .int .i64 0, .int .i64 0, .int .i64 0, .string ⟨#[]⟩, .slice none 0 0].toArray 25) (some b)
  refine (pick_rdr b _ _ _ (R.below ((Below.refl w.heap.size w).alloc (Nat.le_refl _) _)) (by omega) (by omega) (by omega)).mono ?_
  rintro e w1 ⟨x, hx, rfl, hg1, hR1⟩
  have hw1 : w.heap.size + 1 ≤ w1.heap.size := by have := hg1.size; simpa using this
  have BW : Below w1.heap.size w1 ((w1.alloc (.cells #[] 85)).alloc (.cells [Value.int .i64 (x : Int), .int .i64 0, .int .i64 0, .int .i64 0, .string ⟨#[]⟩, .slice (some ⟨w1.heap.size, 0, none⟩) 0 0].toArray 25)) := ((Below.refl _ _).alloc (Nat.le_refl _) _).alloc (by simp) _
  have hs1 : (w1.alloc (.cells #[] 85)).heap.size = w1.heap.size + 1 := by simp
  have FN := Frm.new (w1.alloc (.cells #[] 85)) 25 [Value.int .i64 (x : Int), .int .i64 0, .int .i64 0, .int .i64 0, .string ⟨#[]⟩, .slice (some ⟨w1.heap.size, 0, none⟩) 0 0]
  have TN := Thaw.new (w1.alloc (.cells #[] 85)) 25 [Value.int .i64 (x : Int), .int .i64 0, .int .i64 0, .int .i64 0, .string ⟨#[]⟩, .slice (some ⟨w1.heap.size, 0, none⟩) 0 0]
  rw [hs1] at FN TN
  have M0 : Hid (Mid w b (k + 1) (w1.heap.size + 1) w.heap.size ((w1.alloc (.cells #[] 85)).alloc (.cells [Value.int .i64 (x : Int), .int .i64 0, .int .i64 0, .int .i64 0, .string ⟨#[]⟩, .slice (some ⟨w1.heap.size, 0, none⟩) 0 0].toArray 25))) := Lib.hid ⟨⟨x, 0, 0, 0, ⟨#[]⟩, []⟩, some ⟨w1.heap.size, 0, none⟩, 0, ⟨by simp only; omega, by simp only; omega, by simp only; omega, by simp only; omega, by show 0 ≤ 24; omega, by simp⟩, FN, TN, Frm.below (F0.grown (by simp) hg1 (by omega)) BW (by omega), Thaw.below (T0.grown (by simp) hg1 (by omega)) BW (by omega), World.grownBy.trans (World.grownBy.trans (World.grownBy.trans G0 hg1) (World.grownBy_alloc _ _ _)) (World.grownBy_alloc _ _ _), hR1.below BW, World.ownsRow.alloc (own_new 85 2 w.heap.size w1 (by omega)) _, fun y hy => by injection hy with hy; simp only at hy; omega⟩
  have hgb : w1.heap.size + 1 ≠ b := by omega
  have hrb : w.heap.size ≠ b := by omega
  have hgw : w.heap.size ≤ w1.heap.size + 1 := by omega
  have hgr : w1.heap.size + 1 ≠ w.heap.size := by omega
  clear F0 T0 G0 hg1 hR1 BW FN TN hs1
  go_upto_block 0 with fail
  generalize ((w1.alloc (.cells #[] 85)).alloc (.cells #[Value.int .i64 (x : Int), .int .i64 0, .int .i64 0, .int .i64 0, .string ⟨#[]⟩, .slice (some ⟨w1.heap.size, 0, none⟩) 0 0] 25)) = W1 at *
  go_cut [] (fun wx => Mid w b (k + 100) (w1.heap.size + 1) w.heap.size wx)
  case first =>
    have hx11 : x = 0 ∨ x = 1 ∨ x = 2 ∨ x = 3 ∨ x = 4 ∨ x = 5 ∨ x = 6 ∨ x = 7 ∨ x = 8 ∨ x = 9 ∨ x = 10 := by omega
    rcases hx11 with rfl | rfl | rfl | rfl | rfl | rfl | rfl | rfl | rfl | rfl | rfl
    · go_wp2_with fail
      go_meet
      exact M0.out.le (by omega)
    · go_wp2_with fail
      go_meet
      exact M0.out.le (by omega)
    · go_wp2_with fail
      refine (pick_rdr b _ _ _ M0.out.rdr (by omega) (by omega) (by omega)).mono ?_
      rintro e w1 ⟨y1, hy1, rfl, hg1, hR1⟩
      have N1 := Lib.hid (M0.out.pick hg1 hR1 hgb hrb hbl)
      clear hg1 hR1
      obtain ⟨_, q, z⟩ := N1.out.at 1 (by omega)
      go_wp2_with fail
      have M2 := Lib.hid (N1.out.setA (y1 : Int) (by omega) hbl hgw hgr)
      clear q z
      have L3 := Lib.hid M2.out.lts
      refine (set_any b _ _ _ M2.out.rdr (by omega) (by omega) (by omega)).mono ?_
      rintro e w3 ⟨v3, l3, ⟨_, hl3⟩, rfl, hg3, hR3, ho3, _⟩
      have N3 := Lib.hid (M2.out.pick hg3 hR3 hgb hrb hbl)
      obtain ⟨a3, c3, rfl⟩ := ownsRow_shape ho3
      have O3 := Lib.hid ho3
      clear hg3 hR3 ho3
      obtain ⟨_, q, z⟩ := N3.out.at 5 (by omega)
      go_wp2_with fail
      have M3 := Lib.hid (N3.out.setR (by omega) O3.out L3.out hbl hgw hgr)
      clear q z
      go_meet
      exact M3.out.le (by omega)
    · go_wp2_with fail
      refine (pick_rdr b _ _ _ M0.out.rdr (by omega) (by omega) (by omega)).mono ?_
      rintro e w4 ⟨y4, hy4, rfl, hg4, hR4⟩
      have N4 := Lib.hid (M0.out.pick hg4 hR4 hgb hrb hbl)
      clear hg4 hR4
      obtain ⟨_, q, z⟩ := N4.out.at 1 (by omega)
      go_wp2_with fail
      have M5 := Lib.hid (N4.out.setA (y4 : Int) (by omega) hbl hgw hgr)
      clear q z
      refine (pick_rdr b _ _ _ M5.out.rdr (by omega) (by omega) (by omega)).mono ?_
      rintro e w6 ⟨y6, hy6, rfl, hg6, hR6⟩
      have N6 := Lib.hid (M5.out.pick hg6 hR6 hgb hrb hbl)
      clear hg6 hR6
      obtain ⟨_, q, z⟩ := N6.out.at 2 (by omega)
      go_wp2_with fail
      have M7 := Lib.hid (N6.out.setB (y6 : Int) (by omega) hbl hgw hgr)
      clear q z
      refine (pick_rdr b _ _ _ M7.out.rdr (by omega) (by omega) (by omega)).mono ?_
      rintro e w8 ⟨y8, hy8, rfl, hg8, hR8⟩
      have N8 := Lib.hid (M7.out.pick hg8 hR8 hgb hrb hbl)
      clear hg8 hR8
      obtain ⟨_, q, z⟩ := N8.out.at 3 (by omega)
      go_wp2_with fail
      have M9 := Lib.hid (N8.out.setC (y8 : Int) (by omega) hbl hgw hgr)
      clear q z
      refine (data_any b _ _ M9.out.rdr (by omega)).mono ?_
      rintro e w10 ⟨d10, hd10, rfl, hg10, hR10⟩
      have N10 := Lib.hid (M9.out.pick hg10 hR10 hgb hrb hbl)
      clear hg10 hR10
      obtain ⟨_, q, z⟩ := N10.out.at 4 (by omega)
      go_wp2_with fail
      have M11 := Lib.hid (N10.out.setD d10 (by omega) hbl hgw hgr)
      clear q z
      go_meet
      exact M11.out.le (by omega)
    · go_wp2_with fail
      refine (pick_rdr b _ _ _ M0.out.rdr (by omega) (by omega) (by omega)).mono ?_
      rintro e w12 ⟨y12, hy12, rfl, hg12, hR12⟩
      have N12 := Lib.hid (M0.out.pick hg12 hR12 hgb hrb hbl)
      clear hg12 hR12
      obtain ⟨_, q, z⟩ := N12.out.at 1 (by omega)
      go_wp2_with fail
      have M13 := Lib.hid (N12.out.setA (y12 : Int) (by omega) hbl hgw hgr)
      clear q z
      refine (pick_rdr b _ _ _ M13.out.rdr (by omega) (by omega) (by omega)).mono ?_
      rintro e w14 ⟨y14, hy14, rfl, hg14, hR14⟩
      have N14 := Lib.hid (M13.out.pick hg14 hR14 hgb hrb hbl)
      clear hg14 hR14
      obtain ⟨_, q, z⟩ := N14.out.at 2 (by omega)
      go_wp2_with fail
      have M15 := Lib.hid (N14.out.setB (y14 : Int) (by omega) hbl hgw hgr)
      clear q z
      go_meet
      exact M15.out.le (by omega)
    · go_wp2_with fail
      refine (pick_rdr b _ _ _ M0.out.rdr (by omega) (by omega) (by omega)).mono ?_
      rintro e w16 ⟨y16, hy16, rfl, hg16, hR16⟩
      have N16 := Lib.hid (M0.out.pick hg16 hR16 hgb hrb hbl)
      clear hg16 hR16
      have vN16 : IntKind.i64.wrap (100 * (y16 : Int)) = 100 * (y16 : Int) := IntWalk.i64_in _ (by omega)
      go_wp2_with fail
      refine (pick_rdr b _ _ _ N16.out.rdr (by omega) (by omega) (by omega)).mono ?_
      rintro e w17 ⟨y17, hy17, rfl, hg17, hR17⟩
      have N17 := Lib.hid (N16.out.pick hg17 hR17 hgb hrb hbl)
      clear hg17 hR17
      obtain ⟨_, q, z⟩ := N17.out.at 1 (by omega)
      have v18 : IntKind.i64.wrap (100 * (y16 : Int) + (y17 : Int)) = 100 * (y16 : Int) + (y17 : Int) := IntWalk.i64_in _ (by omega)
      go_wp2_with fail
      have M18 := Lib.hid (N17.out.setA (100 * (y16 : Int) + (y17 : Int)) (by omega) hbl hgw hgr)
      clear q z
      go_meet
      exact M18.out.le (by omega)
    · go_wp2_with fail
      refine (pick_rdr b _ _ _ M0.out.rdr (by omega) (by omega) (by omega)).mono ?_
      rintro e w19 ⟨y19, hy19, rfl, hg19, hR19⟩
      have N19 := Lib.hid (M0.out.pick hg19 hR19 hgb hrb hbl)
      clear hg19 hR19
      have vN19 : IntKind.i64.wrap (100 * (y19 : Int)) = 100 * (y19 : Int) := IntWalk.i64_in _ (by omega)
      go_wp2_with fail
      refine (pick_rdr b _ _ _ N19.out.rdr (by omega) (by omega) (by omega)).mono ?_
      rintro e w20 ⟨y20, hy20, rfl, hg20, hR20⟩
      have N20 := Lib.hid (N19.out.pick hg20 hR20 hgb hrb hbl)
      clear hg20 hR20
      obtain ⟨_, q, z⟩ := N20.out.at 1 (by omega)
      have v21 : IntKind.i64.wrap (100 * (y19 : Int) + (y20 : Int)) = 100 * (y19 : Int) + (y20 : Int) := IntWalk.i64_in _ (by omega)
      go_wp2_with fail
      have M21 := Lib.hid (N20.out.setA (100 * (y19 : Int) + (y20 : Int)) (by omega) hbl hgw hgr)
      clear q z
      go_meet
      exact M21.out.le (by omega)
    · go_wp2_with fail
      refine (pick_rdr b _ _ _ M0.out.rdr (by omega) (by omega) (by omega)).mono ?_
      rintro e w22 ⟨y22, hy22, rfl, hg22, hR22⟩
      have N22 := Lib.hid (M0.out.pick hg22 hR22 hgb hrb hbl)
      clear hg22 hR22
      obtain ⟨_, q, z⟩ := N22.out.at 1 (by omega)
      go_wp2_with fail
      have M23 := Lib.hid (N22.out.setA (y22 : Int) (by omega) hbl hgw hgr)
      clear q z
      refine (pick_rdr b _ _ _ M23.out.rdr (by omega) (by omega) (by omega)).mono ?_
      rintro e w24 ⟨y24, hy24, rfl, hg24, hR24⟩
      have N24 := Lib.hid (M23.out.pick hg24 hR24 hgb hrb hbl)
      clear hg24 hR24
      have vN24 : IntKind.i64.wrap (100 * (y24 : Int)) = 100 * (y24 : Int) := IntWalk.i64_in _ (by omega)
      go_wp2_with fail
      refine (pick_rdr b _ _ _ N24.out.rdr (by omega) (by omega) (by omega)).mono ?_
      rintro e w25 ⟨y25, hy25, rfl, hg25, hR25⟩
      have N25 := Lib.hid (N24.out.pick hg25 hR25 hgb hrb hbl)
      clear hg25 hR25
      obtain ⟨_, q, z⟩ := N25.out.at 2 (by omega)
      have v26 : IntKind.i64.wrap (100 * (y24 : Int) + (y25 : Int)) = 100 * (y24 : Int) + (y25 : Int) := IntWalk.i64_in _ (by omega)
      go_wp2_with fail
      have M26 := Lib.hid (N25.out.setB (100 * (y24 : Int) + (y25 : Int)) (by omega) hbl hgw hgr)
      clear q z
      go_meet
      exact M26.out.le (by omega)
    · go_wp2_with fail
      refine (pick_rdr b _ _ _ M0.out.rdr (by omega) (by omega) (by omega)).mono ?_
      rintro e w27 ⟨y27, hy27, rfl, hg27, hR27⟩
      have N27 := Lib.hid (M0.out.pick hg27 hR27 hgb hrb hbl)
      clear hg27 hR27
      obtain ⟨_, q, z⟩ := N27.out.at 1 (by omega)
      go_wp2_with fail
      have M28 := Lib.hid (N27.out.setA (y27 : Int) (by omega) hbl hgw hgr)
      clear q z
      go_meet
      exact M28.out.le (by omega)
    · go_wp2_with fail
      refine (data_any b _ _ M0.out.rdr (by omega)).mono ?_
      rintro e w29 ⟨d29, hd29, rfl, hg29, hR29⟩
      have N29 := Lib.hid (M0.out.pick hg29 hR29 hgb hrb hbl)
      clear hg29 hR29
      obtain ⟨_, q, z⟩ := N29.out.at 4 (by omega)
      go_wp2_with fail
      have M30 := Lib.hid (N29.out.setD d29 (by omega) hbl hgw hgr)
      clear q z
      go_meet
      exact M30.out.le (by omega)
    · go_wp2_with fail
      refine (pick_rdr b _ _ _ M0.out.rdr (by omega) (by omega) (by omega)).mono ?_
      rintro e w31 ⟨y31, hy31, rfl, hg31, hR31⟩
      have N31 := Lib.hid (M0.out.pick hg31 hR31 hgb hrb hbl)
      clear hg31 hR31
      obtain ⟨_, q, z⟩ := N31.out.at 1 (by omega)
      go_wp2_with fail
      have M32 := Lib.hid (N31.out.setA (y31 : Int) (by omega) hbl hgw hgr)
      clear q z
      go_meet
      exact M32.out.le (by omega)
  case rest =>
    have MC := Lib.hid hcut
    clear hcut M0 hx
    go_wp2_with fail
    refine (pick_rdr b _ _ _ MC.out.rdr (by omega) (by omega) (by omega)).mono ?_
    rintro e w2 ⟨y, hy, rfl, hg2, hR2⟩
    have M9 := Lib.hid (MC.out.pick hg2 hR2 hgb hrb hbl)
    clear hg2 hR2 MC
    go_upto_block 1 with fail
    go_cut [] (fun wx => Mid w b (k + 300) (w1.heap.size + 1) w.heap.size wx)
    case first =>
      have hy14 : y = 0 ∨ y = 1 ∨ y = 2 ∨ y = 3 ∨ y = 4 ∨ y = 5 ∨ 5 < y := by omega
      rcases hy14 with rfl | rfl | rfl | rfl | rfl | rfl | hy5
      · go_wp2_with fail
        refine (pick_rdr b _ _ _ M9.out.rdr (by omega) (by omega) (by omega)).mono ?_
        rintro e w33 ⟨y33, hy33, rfl, hg33, hR33⟩
        have N33 := Lib.hid (M9.out.pick hg33 hR33 hgb hrb hbl)
        clear hg33 hR33
        obtain ⟨_, q, z⟩ := N33.out.at 1 (by omega)
        have v34 : IntKind.i64.wrap ((y33 : Int) - 3) = (y33 : Int) - 3 := IntWalk.i64_in _ (by omega)
        go_wp2_with fail
        have M34 := Lib.hid (N33.out.setA ((y33 : Int) - 3) (by omega) hbl hgw hgr)
        clear q z
        go_meet
        exact M34.out.le (by omega)
      · go_wp2_with fail
        refine (pick_rdr b _ _ _ M9.out.rdr (by omega) (by omega) (by omega)).mono ?_
        rintro e w35 ⟨y35, hy35, rfl, hg35, hR35⟩
        have N35 := Lib.hid (M9.out.pick hg35 hR35 hgb hrb hbl)
        clear hg35 hR35
        obtain ⟨_, q, z⟩ := N35.out.at 2 (by omega)
        have v36 : IntKind.i64.wrap ((y35 : Int) - 3) = (y35 : Int) - 3 := IntWalk.i64_in _ (by omega)
        go_wp2_with fail
        have M36 := Lib.hid (N35.out.setB ((y35 : Int) - 3) (by omega) hbl hgw hgr)
        clear q z
        go_meet
        exact M36.out.le (by omega)
      · go_wp2_with fail
        refine (pick_rdr b _ _ _ M9.out.rdr (by omega) (by omega) (by omega)).mono ?_
        rintro e w37 ⟨y37, hy37, rfl, hg37, hR37⟩
        have N37 := Lib.hid (M9.out.pick hg37 hR37 hgb hrb hbl)
        clear hg37 hR37
        obtain ⟨_, q, z⟩ := N37.out.at 3 (by omega)
        have v38 : IntKind.i64.wrap ((y37 : Int) - 1) = (y37 : Int) - 1 := IntWalk.i64_in _ (by omega)
        go_wp2_with fail
        have M38 := Lib.hid (N37.out.setC ((y37 : Int) - 1) (by omega) hbl hgw hgr)
        clear q z
        go_meet
        exact M38.out.le (by omega)
      · go_wp2_with fail
        refine (data_any b _ _ M9.out.rdr (by omega)).mono ?_
        rintro e w39 ⟨d39, hd39, rfl, hg39, hR39⟩
        have N39 := Lib.hid (M9.out.pick hg39 hR39 hgb hrb hbl)
        clear hg39 hR39
        go_wp2_with fail
        refine (data_any b _ _ N39.out.rdr (by omega)).mono ?_
        rintro e w40 ⟨d40, hd40, rfl, hg40, hR40⟩
        have N40 := Lib.hid (N39.out.pick hg40 hR40 hgb hrb hbl)
        clear hg40 hR40
        obtain ⟨_, q, z⟩ := N40.out.at 4 (by omega)
        have hc41 : ¬ 9223372036854775807 < d39.size + d40.size := by omega
        go_wp2_with fail
        have M41 := Lib.hid (N40.out.setD (d39 ++ d40) (by rw [ByteArray.size_append]; omega) hbl hgw hgr)
        clear q z
        go_meet
        exact M41.out.le (by omega)
      · go_wp2_with fail
        have L42 := Lib.hid M9.out.lts
        refine (ranges_any b _ _ M9.out.rdr (by omega)).mono ?_
        rintro e w42 ⟨v42, l42, ⟨_, hl42⟩, rfl, hg42, hR42, ho42, _⟩
        have N42 := Lib.hid (M9.out.pick hg42 hR42 hgb hrb hbl)
        obtain ⟨a42, c42, rfl⟩ := ownsRow_shape ho42
        have O42 := Lib.hid ho42
        clear hg42 hR42 ho42
        obtain ⟨_, q, z⟩ := N42.out.at 5 (by omega)
        go_wp2_with fail
        have M42 := Lib.hid (N42.out.setR (by omega) O42.out L42.out hbl hgw hgr)
        clear q z
        go_meet
        exact M42.out.le (by omega)
      · go_wp2_with fail
        refine (pick_rdr b _ _ _ M9.out.rdr (by omega) (by omega) (by omega)).mono ?_
        rintro e w43 ⟨y43, hy43, rfl, hg43, hR43⟩
        have N43 := Lib.hid (M9.out.pick hg43 hR43 hgb hrb hbl)
        clear hg43 hR43
        obtain ⟨_, q, z⟩ := N43.out.at 0 (by omega)
        go_wp2_with fail
        have M44 := Lib.hid (N43.out.setK (y43 : Int) (by omega) hbl hgw hgr)
        clear q z
        go_meet
        exact M44.out.le (by omega)
      · have y0 : ((y : Int) == 0) = false := bne_of (by omega)
        have y1 : ((y : Int) == 1) = false := bne_of (by omega)
        have y2 : ((y : Int) == 2) = false := bne_of (by omega)
        have y3 : ((y : Int) == 3) = false := bne_of (by omega)
        have y4 : ((y : Int) == 4) = false := bne_of (by omega)
        have y5 : ((y : Int) == 5) = false := bne_of (by omega)
        go_wp2_with fail
        go_meet
        exact M9.out.le (by omega)
    case rest =>
      obtain ⟨f, a, c, hfb, FC, FT, RC, RT, HG, HR, HO, hne⟩ := hcut
      have HO' := Lib.hid HO
      have HNE := Lib.hid hne
      have HRD := Lib.hid HR
      have HGR := Lib.hid HG
      obtain ⟨a0, a1, a2, a3, a4, a5⟩ : wc.cell? ⟨w1.heap.size + 1, 0, none⟩ = some (.int .i64 f.k) ∧ wc.cell? ⟨w1.heap.size + 1, 1, none⟩ = some (.int .i64 f.a) ∧ wc.cell? ⟨w1.heap.size + 1, 2, none⟩ = some (.int .i64 f.b) ∧ wc.cell? ⟨w1.heap.size + 1, 3, none⟩ = some (.int .i64 f.c) ∧ wc.cell? ⟨w1.heap.size + 1, 4, none⟩ = some (.string f.d) ∧ wc.cell? ⟨w1.heap.size + 1, 5, none⟩ = some (.slice a f.rs.length c) := ⟨FC 0, FC 1, FC 2, FC 3, FC 4, FC 5⟩
      obtain ⟨r0, r1, r2, r3, r4, r5⟩ : wc.cell? ⟨w.heap.size, 0, none⟩ = some (.int .i64 0) ∧ wc.cell? ⟨w.heap.size, 1, none⟩ = some (.int .i64 0) ∧ wc.cell? ⟨w.heap.size, 2, none⟩ = some (.int .i64 0) ∧ wc.cell? ⟨w.heap.size, 3, none⟩ = some (.int .i64 0) ∧ wc.cell? ⟨w.heap.size, 4, none⟩ = some (.string ⟨#[]⟩) ∧ wc.cell? ⟨w.heap.size, 5, none⟩ = some (.slice none 0 0) := ⟨RC 0, RC 1, RC 2, RC 3, RC 4, RC 5⟩
      obtain ⟨t0, t1, t2, t3, t4, t5⟩ : wc.frozen? ⟨w.heap.size, 0, none⟩ = false ∧ wc.frozen? ⟨w.heap.size, 1, none⟩ = false ∧ wc.frozen? ⟨w.heap.size, 2, none⟩ = false ∧ wc.frozen? ⟨w.heap.size, 3, none⟩ = false ∧ wc.frozen? ⟨w.heap.size, 4, none⟩ = false ∧ wc.frozen? ⟨w.heap.size, 5, none⟩ = false := ⟨RT 0, RT 1, RT 2, RT 3, RT 4, RT 5⟩
      have RC' : Hid (Frm wc w.heap.size [.int .i64 0, .int .i64 0, .int .i64 0, .int .i64 0, .string ⟨#[]⟩, .slice none 0 0]) := Lib.hid RC
      have HFB := Lib.hid hfb
      clear hfb FC FT RC RT HG HR HO hne M9 hy
      have RC6 : Hid (Frm ((((((wc.setCell ⟨w.heap.size, 0, none⟩ (.int .i64 f.k)).setCell ⟨w.heap.size, 1, none⟩ (.int .i64 f.a)).setCell ⟨w.heap.size, 2, none⟩ (.int .i64 f.b)).setCell ⟨w.heap.size, 3, none⟩ (.int .i64 f.c)).setCell ⟨w.heap.size, 4, none⟩ (.string f.d)).setCell ⟨w.heap.size, 5, none⟩ (.slice a f.rs.length c)) w.heap.size [.int .i64 f.k, .int .i64 f.a, .int .i64 f.b, .int .i64 f.c, .string f.d, .slice a f.rs.length c]) := Lib.hid ((((((RC'.out.set (i := 0) (by simp) (.int .i64 f.k)).set (i := 1) (by simp) (.int .i64 f.a)).set (i := 2) (by simp) (.int .i64 f.b)).set (i := 3) (by simp) (.int .i64 f.c)).set (i := 4) (by simp) (.string f.d)).set (i := 5) (by simp) (.slice a f.rs.length c))
      have G6 : Hid (w.grownBy ((((((wc.setCell ⟨w.heap.size, 0, none⟩ (.int .i64 f.k)).setCell ⟨w.heap.size, 1, none⟩ (.int .i64 f.a)).setCell ⟨w.heap.size, 2, none⟩ (.int .i64 f.b)).setCell ⟨w.heap.size, 3, none⟩ (.int .i64 f.c)).setCell ⟨w.heap.size, 4, none⟩ (.string f.d)).setCell ⟨w.heap.size, 5, none⟩ (.slice a f.rs.length c)) (some b) ∧ Rdr ((((((wc.setCell ⟨w.heap.size, 0, none⟩ (.int .i64 f.k)).setCell ⟨w.heap.size, 1, none⟩ (.int .i64 f.a)).setCell ⟨w.heap.size, 2, none⟩ (.int .i64 f.b)).setCell ⟨w.heap.size, 3, none⟩ (.int .i64 f.c)).setCell ⟨w.heap.size, 4, none⟩ (.string f.d)).setCell ⟨w.heap.size, 5, none⟩ (.slice a f.rs.length c)) b (k + 300)) := Lib.hid (grow6 hbl HGR.out HRD.out)
      have O6 : Hid (OwnRg ((((((wc.setCell ⟨w.heap.size, 0, none⟩ (.int .i64 f.k)).setCell ⟨w.heap.size, 1, none⟩ (.int .i64 f.a)).setCell ⟨w.heap.size, 2, none⟩ (.int .i64 f.b)).setCell ⟨w.heap.size, 3, none⟩ (.int .i64 f.c)).setCell ⟨w.heap.size, 4, none⟩ (.string f.d)).setCell ⟨w.heap.size, 5, none⟩ (.slice a f.rs.length c)) w.heap.size (.slice a f.rs.length c) f.rs) := Lib.hid (own_far (own_far (own_far (own_far (own_far (own_far HO'.out (fun x hx => (HNE.out x hx).2)) (fun x hx => (HNE.out x hx).2)) (fun x hx => (HNE.out x hx).2)) (fun x hx => (HNE.out x hx).2)) (fun x hx => (HNE.out x hx).2)) (fun x hx => (HNE.out x hx).2))
      go_wp2_with fail
      generalize ((((((wc.setCell ⟨w.heap.size, 0, none⟩ (.int .i64 f.k)).setCell ⟨w.heap.size, 1, none⟩ (.int .i64 f.a)).setCell ⟨w.heap.size, 2, none⟩ (.int .i64 f.b)).setCell ⟨w.heap.size, 3, none⟩ (.int .i64 f.c)).setCell ⟨w.heap.size, 4, none⟩ (.string f.d)).setCell ⟨w.heap.size, 5, none⟩ (.slice a f.rs.length c)) = W6 at *
      obtain ⟨s0, s1, s2, s3, s4, s5⟩ : W6.cell? ⟨w.heap.size, 0, none⟩ = some (.int .i64 f.k) ∧ W6.cell? ⟨w.heap.size, 1, none⟩ = some (.int .i64 f.a) ∧ W6.cell? ⟨w.heap.size, 2, none⟩ = some (.int .i64 f.b) ∧ W6.cell? ⟨w.heap.size, 3, none⟩ = some (.int .i64 f.c) ∧ W6.cell? ⟨w.heap.size, 4, none⟩ = some (.string f.d) ∧ W6.cell? ⟨w.heap.size, 5, none⟩ = some (.slice a f.rs.length c) := ⟨RC6.out 0, RC6.out 1, RC6.out 2, RC6.out 3, RC6.out 4, RC6.out 5⟩
      refine bodyPost_ret (v := frV f (.slice a f.rs.length c)) ?hr rfl ?_
      case hr => rw [results_cell_one rfl]; unfold frV; go_simp
      exact ⟨f, a, c, HFB.out, rfl, G6.out.1, G6.out.2.le (by omega), O6.out⟩
end Go.Proofs.Ytifohfclgonhfaa
