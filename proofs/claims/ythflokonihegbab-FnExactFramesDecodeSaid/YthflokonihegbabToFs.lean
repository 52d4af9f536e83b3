/- szFrameS, toFrameS. -/
import Derived.Test.YthflokonihegbabToF
import Derived.Test.YthflokonihegbabSFs
import Derived.Test.YthflokonihegbabOwnFs
namespace Go.Proofs.Ythflokonihegbab
open Go.RowKit
set_option linter.unusedVariables false
set_option linter.unusedSimpArgs false

theorem szF_cases (f : Fr) (n : Int) (h0 : 0 ≤ n) (h1 : n ≤ 1048576) : szF f n = -1 ∨ (0 ≤ szF f n ∧ szF f n ≤ n ∧ f.rs.length ≤ 1048576 ∧ f.d.size ≤ 1048576) := by
  unfold szF
  split
  · exact .inl rfl
  · split
    · exact .inl rfl
    · exact .inr ⟨by omega, by omega, by omega, by omega⟩
def FrS (f : Fr) : Prop := f.rs.length ≤ 1048576 ∧ f.d.size ≤ 1048576
def SzsPost (w : World) (l : List Fr) (e : Ending) (w' : World) : Prop := ∃ n : Int, e = .returned (.int .i64 n) ∧ Below w.heap.size w w' ∧ (n < 0 ∨ (¬ n < 0 ∧ l.length ≤ 1048576 ∧ ∀ f ∈ l, FrS f))
set_option maxRecDepth 100000 in
set_option maxHeartbeats 2000000 in
theorem szfs_any (v : Value) (l : List Fr) (w : World) (h : Frs w v l) (hl : l.length ≤ 9223372036854775807) (hlen : ∀ f ∈ l, f.rs.length ≤ 9223372036854775807 ∧ f.d.size ≤ maxLen) :
    Calls Try.prog 20 #[v, .int .i64 1048576] w (SzsPost w l) := by
  obtain ⟨a, c, rfl, h⟩ := h
  have HC := Lib.hid h
  have HLN := Lib.hid hlen
  clear h hlen
  have v1 : IntKind.i64.wrap (1048576 - (l.length : Int)) = 1048576 - (l.length : Int) := IntWalk.i64_in _ (by omega)
  by_cases hneg : 1048576 - (l.length : Int) < 0
  · go_enter Try.func20, Try.ntmps20
    go_wp2_with fail
    go_ret
    exact ⟨-1, rfl, Below.refl _ _, .inl (by omega)⟩
  go_enter Try.func20, Try.ntmps20
  go_wp2_with fail
  go_loopw [1, 5] (fun kv iv wr => ∃ (j : Nat) (n : Int), j ≤ l.length ∧ iv = .int .i64 (j : Int) ∧ kv = .int .i64 n ∧ (0 ≤ n ∧ n ≤ 1048576) ∧ Hid (∀ f ∈ l.take j, FrS f) ∧ Hid (Below w.heap.size w wr)) (fun _ iv _ => l.length - (intOf iv).toNat)
  case atStart => exact ⟨0, 1048576 - (l.length : Int), Nat.zero_le _, rfl, rfl, by omega, fun f hf => by simp at hf, Below.refl _ _⟩
  case round =>
    obtain ⟨j, n, hj, rfl, rfl, hn, HS, HB⟩ := hrel
    by_cases hlt : j < l.length
    · have hlt' : (j : Int) < (l.length : Int) := by omega
      obtain ⟨g, o, rfl, hc⟩ := HC.out (by rintro rfl; simp at hlt)
      obtain ⟨ra, rc, hf⟩ := hc j hlt
      have hfw := hf.below HB.out
      have hbd := HLN.out _ (takeF l j hlt).2
      have HTK := Lib.hid (takeF l j hlt).1
      generalize l.getD j frD = f at *
      obtain ⟨c0, c1, c2, c3, c4, c5, hr⟩ := hfw
      have HZ := Lib.hid (fun W => szfr_any f ra rc n W hn.1 hn.2 hbd.1 hbd.2)
      unfold frV at HZ
      have hcs := szF_cases f n hn.1 hn.2
      generalize szF f n = z at *
      clear hf hc hr hbd
      go_wp2_with fail
      refine (HZ.out _).mono ?_
      rintro e w1 ⟨rfl, hb1⟩
      have HB1 := Lib.hid (HB.out.trans (hb1.mono HB.out.size))
      clear hb1 c0 c1 c2 c3 c4 c5
      rcases hcs with hcs | ⟨q0, q1, q2, q3⟩
      · subst hcs
        go_wp2_with fail
        go_ret
        exact ⟨-1, rfl, HB1.out, .inl (by omega)⟩
      · have hz0 : ¬ z < 0 := by omega
        have HS2 : Hid (∀ f ∈ l.take (j + 1), FrS f) := Lib.hid (fun f' hf' => by
          rw [HTK.out] at hf'
          rcases List.mem_append.1 hf' with hf' | hf'
          · exact HS.out f' hf'
          · have : f' = f := by simpa using hf'
            subst this; exact ⟨q2, q3⟩)
        go_wp2_with fail
        go_roundw
        case rel => exact ⟨j + 1, z, by omega, by go_num, rfl, by omega, HS2, HB1⟩
        case measure => simp [intOf]; omega
    · have hlt' : ¬ (j : Int) < (l.length : Int) := by omega
      have HS2 : Hid (∀ f ∈ l, FrS f) := Lib.hid (by have := HS.out; rw [List.take_of_length_le (by omega)] at this; exact this)
      go_wp2_with fail
      go_ret
      exact ⟨n, rfl, HB.out, .inr ⟨by omega, by omega, HS2.out⟩⟩

/-- Frame i of the copy, at block B. -/
def TF (w : World) (B i : Nat) (f : Fr) : Prop := ∃ ra rc, (w.cell? ⟨B, i * 6, none⟩ = some (.int .i64 f.k) ∧ w.cell? ⟨B, i * 6 + 1, none⟩ = some (.int .i64 f.a) ∧ w.cell? ⟨B, i * 6 + 2, none⟩ = some (.int .i64 f.b) ∧ w.cell? ⟨B, i * 6 + 3, none⟩ = some (.int .i64 f.c) ∧ w.cell? ⟨B, i * 6 + 4, none⟩ = some (.string f.d) ∧ w.cell? ⟨B, i * 6 + 5, none⟩ = some (.slice ra f.rs.length rc)) ∧ OwnRg w (B + 1) (.slice ra f.rs.length rc) f.rs
theorem TF.below {w w' : World} {B i : Nat} {f : Fr} (h : TF w B i f) (hb : Below w.heap.size w w') : TF w' B i f := by
  obtain ⟨ra, rc, ⟨h0, h1, h2, h3, h4, h5⟩, h6⟩ := h
  have hl : B < w.heap.size := World.block_lt_of_cell? w _ h0
  exact ⟨ra, rc, ⟨(hb.cell hl).trans h0, (hb.cell hl).trans h1, (hb.cell hl).trans h2, (hb.cell hl).trans h3, (hb.cell hl).trans h4, (hb.cell hl).trans h5⟩, own_below h6 hb⟩
theorem TF.set {w : World} {B i k : Nat} {f : Fr} (h : TF w B i f) (hk : i * 6 + 6 ≤ k) (v : Value) : TF (w.setCell ⟨B, k, none⟩ v) B i f := by
  obtain ⟨ra, rc, ⟨h0, h1, h2, h3, h4, h5⟩, h6⟩ := h
  have key : ∀ j, j < i * 6 + 6 → (w.setCell ⟨B, k, none⟩ v).cell? ⟨B, j, none⟩ = w.cell? ⟨B, j, none⟩ := fun j hj => World.cell?_setCell_other _ _ _ _ (by intro e; injection e with e1 e2 e3; omega)
  exact ⟨ra, rc, ⟨(key _ (by omega)).trans h0, (key _ (by omega)).trans h1, (key _ (by omega)).trans h2, (key _ (by omega)).trans h3, (key _ (by omega)).trans h4, (key _ (by omega)).trans h5⟩, own_far h6 (fun g hg => by have := (World.ownsRow.lt h6 g hg).1; omega)⟩
/-- The block has n cells that may be written. -/
def Wr (w : World) (B n : Nat) : Prop := ∀ k, k < n → (∃ u, w.cell? ⟨B, k, none⟩ = some u) ∧ w.frozen? ⟨B, k, none⟩ = false
theorem Wr.below {w w' : World} {B n : Nat} (h : Wr w B n) (hb : Below w.heap.size w w') : Wr w' B n := fun k hk => by
  obtain ⟨⟨u, hu⟩, hf⟩ := h k hk
  have hl : B < w.heap.size := World.block_lt_of_cell? w _ hu
  exact ⟨⟨u, (hb.cell hl).trans hu⟩, (hb.frozen (p := ⟨B, k, none⟩) hl).trans hf⟩
theorem Wr.set {w : World} {B n : Nat} (h : Wr w B n) (i : Nat) (v : Value) : Wr (w.setCell ⟨B, i, none⟩ v) B n := fun k hk => by
  obtain ⟨⟨u, hu⟩, hf⟩ := h k hk
  refine ⟨?_, by rw [World.frozen?_setCell]; exact hf⟩
  by_cases e : i = k
  · subst e; exact ⟨v, World.cell?_setCell_same _ _ _ hu⟩
  · exact ⟨u, (World.cell?_setCell_other _ _ _ _ (by intro q; injection q with q1 q2 q3; exact e q2)).trans hu⟩
/-- Frame j is stored. -/
theorem tf_store {w w3 : World} {f : Fr} {ra2 : Option Addr} {rc2 n j : Nat} (hw : Wr w3 w.heap.size n) (hj : j * 6 + 6 ≤ n) (ho : OwnRg w3 (w.heap.size + 1) (.slice ra2 f.rs.length rc2) f.rs) (hb : Below w.heap.size w w3) :
    TF ((((((w3.setCell ⟨w.heap.size, j * 6, none⟩ (.int .i64 f.k)).setCell ⟨w.heap.size, j * 6 + 1, none⟩ (.int .i64 f.a)).setCell ⟨w.heap.size, j * 6 + 2, none⟩ (.int .i64 f.b)).setCell ⟨w.heap.size, j * 6 + 3, none⟩ (.int .i64 f.c)).setCell ⟨w.heap.size, j * 6 + 4, none⟩ (.string f.d)).setCell ⟨w.heap.size, j * 6 + 5, none⟩ (.slice ra2 f.rs.length rc2)) w.heap.size j f ∧ Wr ((((((w3.setCell ⟨w.heap.size, j * 6, none⟩ (.int .i64 f.k)).setCell ⟨w.heap.size, j * 6 + 1, none⟩ (.int .i64 f.a)).setCell ⟨w.heap.size, j * 6 + 2, none⟩ (.int .i64 f.b)).setCell ⟨w.heap.size, j * 6 + 3, none⟩ (.int .i64 f.c)).setCell ⟨w.heap.size, j * 6 + 4, none⟩ (.string f.d)).setCell ⟨w.heap.size, j * 6 + 5, none⟩ (.slice ra2 f.rs.length rc2)) w.heap.size n ∧ Below w.heap.size w ((((((w3.setCell ⟨w.heap.size, j * 6, none⟩ (.int .i64 f.k)).setCell ⟨w.heap.size, j * 6 + 1, none⟩ (.int .i64 f.a)).setCell ⟨w.heap.size, j * 6 + 2, none⟩ (.int .i64 f.b)).setCell ⟨w.heap.size, j * 6 + 3, none⟩ (.int .i64 f.c)).setCell ⟨w.heap.size, j * 6 + 4, none⟩ (.string f.d)).setCell ⟨w.heap.size, j * 6 + 5, none⟩ (.slice ra2 f.rs.length rc2)) ∧ (∀ i g, i < j → TF w3 w.heap.size i g → TF ((((((w3.setCell ⟨w.heap.size, j * 6, none⟩ (.int .i64 f.k)).setCell ⟨w.heap.size, j * 6 + 1, none⟩ (.int .i64 f.a)).setCell ⟨w.heap.size, j * 6 + 2, none⟩ (.int .i64 f.b)).setCell ⟨w.heap.size, j * 6 + 3, none⟩ (.int .i64 f.c)).setCell ⟨w.heap.size, j * 6 + 4, none⟩ (.string f.d)).setCell ⟨w.heap.size, j * 6 + 5, none⟩ (.slice ra2 f.rs.length rc2)) w.heap.size i g) := by
  have w1 := hw.set (j * 6) (.int .i64 f.k)
  have w2 := w1.set (j * 6 + 1) (.int .i64 f.a)
  have w3' := w2.set (j * 6 + 2) (.int .i64 f.b)
  have w4 := w3'.set (j * 6 + 3) (.int .i64 f.c)
  have w5 := w4.set (j * 6 + 4) (.string f.d)
  have w6 := w5.set (j * 6 + 5) (.slice ra2 f.rs.length rc2)
  have hne : ∀ g, (Value.slice ra2 f.rs.length rc2).ownBlock = some g → w.heap.size ≠ g := fun g hg => by have := (World.ownsRow.lt ho g hg).1; omega
  have oth : ∀ (W : World) (k m : Nat) (v : Value), k ≠ m → (W.setCell ⟨w.heap.size, k, none⟩ v).cell? ⟨w.heap.size, m, none⟩ = W.cell? ⟨w.heap.size, m, none⟩ := fun W k m v h => World.cell?_setCell_other _ _ _ _ (by intro q; injection q with q1 q2 q3; exact h q2)
  refine ⟨⟨ra2, rc2, ⟨?_, ?_, ?_, ?_, ?_, ?_⟩, own_far (own_far (own_far (own_far (own_far (own_far ho hne) hne) hne) hne) hne) hne⟩, w6, Below.setCell (Below.setCell (Below.setCell (Below.setCell (Below.setCell (Below.setCell hb (Nat.le_refl _) _) (Nat.le_refl _) _) (Nat.le_refl _) _) (Nat.le_refl _) _) (Nat.le_refl _) _) (Nat.le_refl _) _, fun i g hi h => (((((h.set (by omega) _).set (by omega) _).set (by omega) _).set (by omega) _).set (by omega) _).set (by omega) _⟩
  · rw [oth _ _ _ _ (by omega), oth _ _ _ _ (by omega), oth _ _ _ _ (by omega), oth _ _ _ _ (by omega), oth _ _ _ _ (by omega)]
    obtain ⟨⟨u, hu⟩, _⟩ := hw (j * 6) (by omega)
    exact World.cell?_setCell_same _ _ _ hu
  · rw [oth _ _ _ _ (by omega), oth _ _ _ _ (by omega), oth _ _ _ _ (by omega), oth _ _ _ _ (by omega)]
    obtain ⟨⟨u, hu⟩, _⟩ := w1 (j * 6 + 1) (by omega)
    exact World.cell?_setCell_same _ _ _ hu
  · rw [oth _ _ _ _ (by omega), oth _ _ _ _ (by omega), oth _ _ _ _ (by omega)]
    obtain ⟨⟨u, hu⟩, _⟩ := w2 (j * 6 + 2) (by omega)
    exact World.cell?_setCell_same _ _ _ hu
  · rw [oth _ _ _ _ (by omega), oth _ _ _ _ (by omega)]
    obtain ⟨⟨u, hu⟩, _⟩ := w3' (j * 6 + 3) (by omega)
    exact World.cell?_setCell_same _ _ _ hu
  · rw [oth _ _ _ _ (by omega)]
    obtain ⟨⟨u, hu⟩, _⟩ := w4 (j * 6 + 4) (by omega)
    exact World.cell?_setCell_same _ _ _ hu
  · obtain ⟨⟨u, hu⟩, _⟩ := w5 (j * 6 + 5) (by omega)
    exact World.cell?_setCell_same _ _ _ hu

set_option maxRecDepth 100000 in
set_option maxHeartbeats 2000000 in
theorem tofs_any (v : Value) (l : List Fr) (w : World) (h : Frs w v l) (hl : l.length ≤ 1048576) (hlen : ∀ f ∈ l, FrS f) :
    Calls Try.prog 22 #[v] w fun e w' => ∃ v', e = .returned v' ∧ Below w.heap.size w w' ∧ Frs w' v' l := by
  obtain ⟨i0, hi, hz0, hz1, hz2⟩ := info_parts try_infoFrame
  have HI := Lib.hid hi
  obtain ⟨a, c, rfl, h⟩ := h
  have HC := Lib.hid h
  have HLN := Lib.hid hlen
  clear hi h hlen
  go_enter Try.func22, Try.ntmps22
  go_wp2_with (at_make; refine wpList_make_full _ rfl _ _ 42 rfl w.heap.size 29 i0 (.agg #[.int .i64 0, .int .i64 0, .int .i64 0, .int .i64 0, .string ⟨#[]⟩, .slice none 0 0]) 6 Try.underlying42 HI.out hz0 hz1 .i64 .i64 _ _ l.length rfl rfl rfl rfl (by rw [hz2]; omega) (by unfold maxLen; omega) (Nat.le_refl _) ?_)
  intro w1 hown hgrow
  have B1 : Hid (Below w.heap.size w w1) := Lib.hid ((Below.refl _ _).grown hgrow (Nat.le_refl _) (fun k hk => by cases hk))
  have W1 : Hid (Wr w1 w.heap.size (l.length * 6)) := Lib.hid (fun k hk => by
    have hc := hown.cellAt k (by omega)
    have hz : k < (madeCells #[Value.int .i64 0, .int .i64 0, .int .i64 0, .int .i64 0, .string ⟨#[]⟩, .slice none 0 0] (l.length * 6)).toList.length := by simp [madeCells]; omega
    rw [List.getElem?_eq_getElem hz] at hc
    exact ⟨⟨_, hc⟩, hown.frozenAt k⟩)
  clear hown hgrow
  go_wp2_with fail
  go_loopw [4] (fun iv wr => ∃ j : Nat, j ≤ l.length ∧ iv = .int .i64 (j : Int) ∧ Hid (Below w.heap.size w wr) ∧ Hid (Wr wr w.heap.size (l.length * 6)) ∧ Hid (∀ i, i < j → TF wr w.heap.size i (l.getD i frD))) (fun iv _ => l.length - (intOf iv).toNat)
  case atStart => exact ⟨0, Nat.zero_le _, rfl, B1.out, W1.out, fun i hi => by omega⟩
  case round =>
    obtain ⟨j, hj, rfl, HB, HW, HT⟩ := hrel
    by_cases hlt : j < l.length
    · have hlt' : (j : Int) < (l.length : Int) := by omega
      obtain ⟨g, o, rfl, hc⟩ := HC.out (by rintro rfl; simp at hlt)
      obtain ⟨ra, rc, hf⟩ := hc j hlt
      have hfw := hf.below HB.out
      have hbd := HLN.out _ (takeF l j hlt).2
      obtain ⟨f, hfe⟩ : ∃ f, l.getD j frD = f := ⟨_, rfl⟩
      rw [hfe] at hfw hbd
      have HFE := Lib.hid hfe
      obtain ⟨c0, c1, c2, c3, c4, c5, hr⟩ := hfw
      have HR := Lib.hid hr
      have HTO := Lib.hid (fun W h => tofr_any f ra rc W h hbd.1)
      unfold frV at HTO
      have hwz : w.heap.size + 1 ≤ wr.heap.size := by
        obtain ⟨⟨u, hu⟩, _⟩ := HW.out 0 (by omega)
        exact World.block_lt_of_cell? wr _ hu
      clear hf hc hr hbd hfe
      go_wp2_with fail
      refine (HTO.out _ HR.out).mono ?_
      rintro e w3 ⟨ra2, rc2, rfl, hb3, ho3⟩
      have HB3 := Lib.hid (HB.out.trans (hb3.mono HB.out.size))
      have HW3 := Lib.hid (HW.out.below hb3)
      have HT3 : Hid (∀ i, i < j → TF w3 w.heap.size i (l.getD i frD)) := Lib.hid (fun i hi => (HT.out i hi).below hb3)
      have HST := Lib.hid (tf_store (j := j) HW3.out (by omega) (OwnRg.lower ho3 hwz) HB3.out)
      obtain ⟨⟨u0, d0⟩, t0⟩ := HW3.out (j * 6) (by omega)
      obtain ⟨⟨u1, d1⟩, t1⟩ := HW3.out (j * 6 + 1) (by omega)
      obtain ⟨⟨u2, d2⟩, t2⟩ := HW3.out (j * 6 + 2) (by omega)
      obtain ⟨⟨u3, d3⟩, t3⟩ := HW3.out (j * 6 + 3) (by omega)
      obtain ⟨⟨u4, d4⟩, t4⟩ := HW3.out (j * 6 + 4) (by omega)
      obtain ⟨⟨u5, d5⟩, t5⟩ := HW3.out (j * 6 + 5) (by omega)
      clear hb3 ho3 c0 c1 c2 c3 c4 c5
      go_wp2_with fail
      go_roundw
      case rel => exact ⟨j + 1, by omega, by go_num, HST.out.2.2.1, HST.out.2.1, fun i hi => by
        by_cases e : i = j
        · subst e; rw [HFE.out]; exact HST.out.1
        · exact HST.out.2.2.2 i _ (by omega) (HT3.out i (by omega))⟩
      case measure => simp [intOf]; omega
    · have hlt' : ¬ (j : Int) < (l.length : Int) := by omega
      have HF : Hid (Frs wr (.slice (some ⟨w.heap.size, 0, none⟩) l.length l.length) l) := Lib.hid ⟨some ⟨w.heap.size, 0, none⟩, l.length, rfl, fun _ => ⟨w.heap.size, 0, rfl, fun i hi => by
        obtain ⟨ra, rc, ⟨h0, h1, h2, h3, h4, h5⟩, h6⟩ := HT.out i (by omega)
        rw [Nat.zero_add]
        exact ⟨ra, rc, h0, h1, h2, h3, h4, h5, Rngs.of_own h6⟩⟩⟩
      go_wp2_with fail
      go_ret
      exact ⟨_, rfl, HB.out, HF.out⟩

end Go.Proofs.Ythflokonihegbab
