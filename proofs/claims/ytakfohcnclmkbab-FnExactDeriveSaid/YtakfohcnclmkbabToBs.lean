/- toBoxS: a copy in new memory. -/
import Derived.Test.YtakfohcnclmkbabToBx
namespace Go.Proofs.Ytakfohcnclmkbab
open Go.RowKit
set_option linter.unusedVariables false
set_option linter.unusedSimpArgs false

/-- The block has n cells that may be written. -/
def Wr (w : World) (B n : Nat) : Prop := ∀ k, k < n → (∃ u, w.cell? ⟨B, k, none⟩ = some u) ∧ w.frozen? ⟨B, k, none⟩ = false
theorem Wr.below {w w' : World} {B n : Nat} (h : Wr w B n) (hb : Below w.heap.size w w') : Wr w' B n := fun k hk => by
  obtain ⟨⟨u, hu⟩, hf⟩ := h k hk
  have hl : B < w.heap.size := World.block_lt_of_cell? w _ hu
  exact ⟨⟨u, (hb.cell hl).trans hu⟩, (hb.frozen (p := ⟨B, k, none⟩) hl).trans hf⟩
theorem Wr.set {w : World} {B n : Nat} (h : Wr w B n) (i : Nat) (v : Value) : Wr (w.setCell ⟨B, i, none⟩ v) B n := fun k hk => by
  obtain ⟨⟨u, hu⟩, hf⟩ := h k hk
  refine ⟨?_, by rw [World.frozen?_setCell]; exact hf⟩
  by_cases e : i = k
  · subst e; exact ⟨v, World.cell?_setCell_same _ _ _ hu⟩
  · exact ⟨u, (World.cell?_setCell_other _ _ _ _ (by intro q; injection q with q1 q2 q3; exact e q2)).trans hu⟩
theorem Wr.grown {w w' : World} {B n : Nat} {row : Option Nat} (h : Wr w B n) (hg : w.grownBy w' row) (hng : some B ≠ row) : Wr w' B n := fun k hk => by
  obtain ⟨⟨u, hu⟩, hf⟩ := h k hk
  have hl : B < w.heap.size := World.block_lt_of_cell? w _ hu
  exact ⟨⟨u, (World.grownBy.cell_far hg ⟨B, k, none⟩ hl hng).trans hu⟩, (World.grownBy.frozen_far hg ⟨B, k, none⟩ hl hng).trans hf⟩
/-- Box i of the copy, at block B; what lies inside lies above B. -/
def TB (w : World) (B i : Nat) (b : Bx) : Prop := ∃ q c, w.cell? ⟨B, i * 2, none⟩ = some (.int .i64 b.1) ∧ w.cell? ⟨B, i * 2 + 1, none⟩ = some (.slice (some ⟨q, 0, none⟩) b.2.length c) ∧ OwnI w (B + 1) (.slice (some ⟨q, 0, none⟩) b.2.length c) b.2
theorem TB.below {w w' : World} {B i : Nat} {b : Bx} (h : TB w B i b) (hb : Below w.heap.size w w') : TB w' B i b := by
  obtain ⟨q, c, h0, h1, h2⟩ := h
  have hl : B < w.heap.size := World.block_lt_of_cell? w _ h0
  exact ⟨q, c, (hb.cell hl).trans h0, (hb.cell hl).trans h1, OwnI.below h2 hb⟩
theorem TB.set {w : World} {B i k : Nat} {b : Bx} (h : TB w B i b) (hk : i * 2 + 2 ≤ k) (v : Value) : TB (w.setCell ⟨B, k, none⟩ v) B i b := by
  obtain ⟨q, c, h0, h1, h2⟩ := h
  have key : ∀ j, j < i * 2 + 2 → (w.setCell ⟨B, k, none⟩ v).cell? ⟨B, j, none⟩ = w.cell? ⟨B, j, none⟩ := fun j hj => World.cell?_setCell_other _ _ _ _ (by intro e; injection e with e1 e2 e3; omega)
  exact ⟨q, c, (key _ (by omega)).trans h0, (key _ (by omega)).trans h1, own_far h2 (fun g hg => by have := (OwnI.lt h2 hg).1; omega)⟩
/-- Box j is stored. -/
theorem tb_store {w w3 : World} {b : Bx} {q c n j : Nat} (hw : Wr w3 w.heap.size n) (hj : j * 2 + 2 ≤ n) (ho : OwnI w3 (w.heap.size + 1) (.slice (some ⟨q, 0, none⟩) b.2.length c) b.2) (hb : Below w.heap.size w w3) :
    TB ((w3.setCell ⟨w.heap.size, j * 2, none⟩ (.int .i64 b.1)).setCell ⟨w.heap.size, j * 2 + 1, none⟩ (.slice (some ⟨q, 0, none⟩) b.2.length c)) w.heap.size j b ∧
    Wr ((w3.setCell ⟨w.heap.size, j * 2, none⟩ (.int .i64 b.1)).setCell ⟨w.heap.size, j * 2 + 1, none⟩ (.slice (some ⟨q, 0, none⟩) b.2.length c)) w.heap.size n ∧
    Below w.heap.size w ((w3.setCell ⟨w.heap.size, j * 2, none⟩ (.int .i64 b.1)).setCell ⟨w.heap.size, j * 2 + 1, none⟩ (.slice (some ⟨q, 0, none⟩) b.2.length c)) ∧
    (∀ i g, i < j → TB w3 w.heap.size i g → TB ((w3.setCell ⟨w.heap.size, j * 2, none⟩ (.int .i64 b.1)).setCell ⟨w.heap.size, j * 2 + 1, none⟩ (.slice (some ⟨q, 0, none⟩) b.2.length c)) w.heap.size i g) := by
  have w1 := hw.set (j * 2) (.int .i64 b.1)
  have w2 := w1.set (j * 2 + 1) (.slice (some ⟨q, 0, none⟩) b.2.length c)
  have hne : ∀ g, (Value.slice (some ⟨q, 0, none⟩) b.2.length c).ownBlock = some g → w.heap.size ≠ g := fun g hg => by have := (OwnI.lt ho hg).1; omega
  have oth : ∀ (W : World) (k m : Nat) (v : Value), k ≠ m → (W.setCell ⟨w.heap.size, k, none⟩ v).cell? ⟨w.heap.size, m, none⟩ = W.cell? ⟨w.heap.size, m, none⟩ := fun W k m v h => World.cell?_setCell_other _ _ _ _ (by intro q; injection q with q1 q2 q3; exact h q2)
  refine ⟨⟨q, c, ?_, ?_, own_far (own_far ho hne) hne⟩, w2, Below.setCell (Below.setCell hb (Nat.le_refl _) _) (Nat.le_refl _) _, fun i g hi h => (h.set (by omega) _).set (by omega) _⟩
  · rw [oth _ _ _ _ (by omega)]
    obtain ⟨⟨u, hu⟩, _⟩ := hw (j * 2) (by omega)
    exact World.cell?_setCell_same _ _ _ hu
  · obtain ⟨⟨u, hu⟩, _⟩ := w1 (j * 2 + 1) (by omega)
    exact World.cell?_setCell_same _ _ _ hu
structure ToB (w : World) (B : Nat) (l : List Bx) : Prop where
  wr : Wr w B (l.length * 2)
  tb : ∀ i, i < l.length → TB w B i (l.getD i bxD)
theorem ToB.bxs {w : World} {B c : Nat} {l : List Bx} (h : ToB w B l) : Bxs w (.slice (some ⟨B, 0, none⟩) l.length c) l :=
  ⟨some ⟨B, 0, none⟩, c, rfl, fun _ => ⟨B, 0, rfl, fun i hi => by
    obtain ⟨q, c, h0, h1, h2⟩ := h.tb i hi
    rw [Nat.zero_add]
    exact ⟨some ⟨q, 0, none⟩, c, h0, h1, h2.ints⟩⟩⟩
theorem ToB.below {w w' : World} {B : Nat} {l : List Bx} (h : ToB w B l) (hb : Below w.heap.size w w') : ToB w' B l := ⟨h.wr.below hb, fun i hi => (h.tb i hi).below hb⟩

set_option maxRecDepth 100000 in
set_option maxHeartbeats 2000000 in
theorem tobs_any (v : Value) (l : List Bx) (w : World) (h : Bxs w v l) (hl : l.length ≤ 1048576) (hlen : ∀ b ∈ l, b.2.length ≤ 1048576) :
    Calls Try.prog 10 #[v] w fun e w' => e = .returned (.slice (some ⟨w.heap.size, 0, none⟩) l.length l.length) ∧ Below w.heap.size w w' ∧ ToB w' w.heap.size l ∧ w.heap.size < w'.heap.size := by
  obtain ⟨i0, hi, hz0, hz1, hz2⟩ := info_parts try_infoBox
  have HI := Lib.hid hi
  obtain ⟨a, c, rfl, h⟩ := h
  have HC := Lib.hid h
  have HLN := Lib.hid hlen
  clear hi h hlen
  go_enter Try.func10, Try.ntmps10
  go_wp2_with (at_make; refine wpList_make_full _ rfl _ _ 25 rfl w.heap.size 43 i0 (.agg #[.int .i64 0, .slice none 0 0]) 2 Try.underlying25 HI.out hz0 hz1 .i64 .i64 _ _ l.length rfl rfl rfl rfl (by rw [hz2]; omega) (by unfold maxLen; omega) (Nat.le_refl _) ?_)
  intro w1 hown hgrow
  have B1 : Hid (Below w.heap.size w w1) := Lib.hid ((Below.refl _ _).grown hgrow (Nat.le_refl _) (fun k hk => by cases hk))
  have W1 : Hid (Wr w1 w.heap.size (l.length * 2)) := Lib.hid (fun k hk => by
    have hc := hown.cellAt k (by omega)
    have hz : k < (madeCells #[Value.int .i64 0, .slice none 0 0] (l.length * 2)).toList.length := by simp [madeCells]; omega
    rw [List.getElem?_eq_getElem hz] at hc
    exact ⟨⟨_, hc⟩, hown.frozenAt k⟩)
  have hsz1 : w.heap.size + 1 ≤ w1.heap.size := by
    obtain ⟨_, ⟨e, _⟩ | ⟨g, c, cur, e, _, hg, _⟩⟩ := hown
    · cases e
    · injection e with e; injection e with e; injection e with e
      have := (Array.getElem?_eq_some_iff.1 hg).1
      omega
  have HZ1 := Lib.hid hsz1
  clear hown hgrow hsz1
  go_wp2_with fail
  go_loopw [4] (fun iv wr => ∃ j : Nat, j ≤ l.length ∧ iv = .int .i64 (j : Int) ∧ Hid (Below w.heap.size w wr) ∧ Hid (Wr wr w.heap.size (l.length * 2)) ∧ Hid (∀ i, i < j → TB wr w.heap.size i (l.getD i bxD)) ∧ Hid (w.heap.size < wr.heap.size)) (fun iv _ => l.length - (intOf iv).toNat)
  case atStart => exact ⟨0, Nat.zero_le _, rfl, B1.out, W1.out, fun i hi => by omega, HZ1⟩
  case round =>
    obtain ⟨j, hj, rfl, HB, HW, HT, HZ⟩ := hrel
    by_cases hlt : j < l.length
    · have hlt' : (j : Int) < (l.length : Int) := by omega
      obtain ⟨g, o, rfl, hc⟩ := HC.out (by rintro rfl; simp at hlt)
      obtain ⟨ra, rc, hf⟩ := hc j hlt
      have hfw := hf.below HB.out
      have hbd := HLN.out _ (takeB l j hlt).2
      obtain ⟨f, hfe⟩ : ∃ f, l.getD j bxD = f := ⟨_, rfl⟩
      rw [hfe] at hfw hbd
      have HFE := Lib.hid hfe
      obtain ⟨key, ins⟩ := f
      obtain ⟨c0, c1, hr⟩ := hfw
      simp only at c0 c1 hr hbd
      have HR := Lib.hid hr
      have HTO := Lib.hid (fun W h => tobx_any key ins ra rc W h hbd)
      have hwz : w.heap.size + 1 ≤ wr.heap.size := HZ.out
      clear hf hc hr hbd hfe
      go_wp2_with fail
      refine (HTO.out _ HR.out).mono ?_
      rintro e w3 ⟨q, rc2, rfl, hb3, ho3⟩
      have HB3 := Lib.hid (HB.out.trans (hb3.mono HB.out.size))
      have HW3 := Lib.hid (HW.out.below hb3)
      have HT3 : Hid (∀ i, i < j → TB w3 w.heap.size i (l.getD i bxD)) := Lib.hid (fun i hi => (HT.out i hi).below hb3)
      have HST := Lib.hid (tb_store (b := (key, ins)) (j := j) HW3.out (by omega) (OwnI.base ho3 hwz) HB3.out)
      obtain ⟨⟨u0, d0⟩, t0⟩ := HW3.out (j * 2) (by omega)
      obtain ⟨⟨u1, d1⟩, t1⟩ := HW3.out (j * 2 + 1) (by omega)
      have HZ3 : Hid (w.heap.size < w3.heap.size) := Lib.hid (Nat.lt_of_lt_of_le HZ.out hb3.size)
      clear hb3 ho3 c0 c1
      go_wp2_with fail
      go_roundw
      case rel => exact ⟨j + 1, by omega, by go_num, HST.out.2.2.1, HST.out.2.1, fun i hi => by
        by_cases e : i = j
        · subst e; rw [HFE.out]; exact HST.out.1
        · exact HST.out.2.2.2 i _ (by omega) (HT3.out i (by omega)), Lib.hid (by have := HZ3.out; simpa [World.setCell] using this)⟩
      case measure => simp [intOf]; omega
    · have hlt' : ¬ (j : Int) < (l.length : Int) := by omega
      have HF : Hid (ToB wr w.heap.size l) := Lib.hid ⟨HW.out, fun i hi => HT.out i (by omega)⟩
      go_wp2_with fail
      go_ret
      exact ⟨rfl, HB.out, HF.out, HZ.out⟩

end Go.Proofs.Ytakfohcnclmkbab
