/- markFrameS, heldFrameS. -/
import Derived.Test.YthflokonihegbabIFd2
import Derived.Test.YthflokonihegbabToFs
import Derived.Test.YthflokonihegbabMkF4
import Derived.Test.YthflokonihegbabMkT
namespace Go.Proofs.Ythflokonihegbab
open Go.RowKit
set_option linter.unusedVariables false
set_option linter.unusedSimpArgs false

def frRD : FrR := (frD, none, 0)
def Kf (l : List FrR) : Int := 1 + (l.map fun r => 5 + 2 * (r.1.rs.length : Int)).sum
theorem Kf_snoc (l : List FrR) (r : FrR) : Kf (l ++ [r]) = Kf l + 5 + 2 * (r.1.rs.length : Int) := by unfold Kf; simp; omega
theorem takeR (l : List FrR) (j : Nat) (h : j < l.length) : l.take (j + 1) = l.take j ++ [l.getD j frRD] ∧ l.getD j frRD ∈ l := by
  have e : l.getD j frRD = l[j] := by rw [List.getD_eq_getElem?_getD, List.getElem?_eq_getElem h]; rfl
  rw [e]
  exact ⟨List.take_succ_eq_append_getElem h, List.getElem_mem h⟩
theorem Kf_bnd : ∀ (l : List FrR), (∀ r ∈ l, r.1.rs.length ≤ 16) → 1 ≤ Kf l ∧ Kf l ≤ 1 + 37 * (l.length : Int)
  | [], _ => by unfold Kf; simp
  | r :: t, h => by
    have ih := Kf_bnd t (fun q hq => h q (List.mem_cons_of_mem _ hq))
    have := h r (List.mem_cons_self ..)
    unfold Kf at ih ⊢
    simp only [List.map_cons, List.sum_cons, List.length_cons]
    omega
/-- Frame i is marked from K on; it is as it was. -/
def MF (w : World) (B g i : Nat) (K : Int) (r : FrR) : Prop := (w.cell? ⟨g, i * 6, none⟩ = some (.int .i64 K) ∧ w.cell? ⟨g, i * 6 + 1, none⟩ = some (.int .i64 (K + 1)) ∧ w.cell? ⟨g, i * 6 + 2, none⟩ = some (.int .i64 (K + 2)) ∧ w.cell? ⟨g, i * 6 + 3, none⟩ = some (.int .i64 (K + 3)) ∧ w.cell? ⟨g, i * 6 + 4, none⟩ = some (.string (mtS (K + 4))) ∧ w.cell? ⟨g, i * 6 + 5, none⟩ = some (fsl r)) ∧ OwnRg w B (fsl r) (rmF (K + 5) r.1.rs.length)
def RF (w : World) (B g i : Nat) (r : FrR) : Prop := w.cell? ⟨g, i * 6 + 5, none⟩ = some (fsl r) ∧ OwnRg w B (fsl r) r.1.rs
theorem MF.below {w w' : World} {B g i : Nat} {K : Int} {r : FrR} (h : MF w B g i K r) (hb : Below w.heap.size w w') : MF w' B g i K r := by
  obtain ⟨⟨h0, h1, h2, h3, h4, h5⟩, h6⟩ := h
  have hl : g < w.heap.size := World.block_lt_of_cell? w _ h0
  exact ⟨⟨(hb.cell hl).trans h0, (hb.cell hl).trans h1, (hb.cell hl).trans h2, (hb.cell hl).trans h3, (hb.cell hl).trans h4, (hb.cell hl).trans h5⟩, own_below h6 hb⟩
theorem RF.below {w w' : World} {B g i : Nat} {r : FrR} (h : RF w B g i r) (hb : Below w.heap.size w w') : RF w' B g i r := by
  have hl : g < w.heap.size := World.block_lt_of_cell? w _ h.1
  exact ⟨(hb.cell hl).trans h.1, own_below h.2 hb⟩
theorem MF.set {w : World} {B g i k : Nat} {K : Int} {r : FrR} (h : MF w B g i K r) (hk : i * 6 + 6 ≤ k) (v : Value) (hn : ∀ b, (fsl r).ownBlock = some b → g ≠ b) : MF (w.setCell ⟨g, k, none⟩ v) B g i K r := by
  obtain ⟨⟨h0, h1, h2, h3, h4, h5⟩, h6⟩ := h
  have key : ∀ j, j < i * 6 + 6 → (w.setCell ⟨g, k, none⟩ v).cell? ⟨g, j, none⟩ = w.cell? ⟨g, j, none⟩ := fun j hj => World.cell?_setCell_other _ _ _ _ (by intro e; injection e with e1 e2 e3; omega)
  exact ⟨⟨(key _ (by omega)).trans h0, (key _ (by omega)).trans h1, (key _ (by omega)).trans h2, (key _ (by omega)).trans h3, (key _ (by omega)).trans h4, (key _ (by omega)).trans h5⟩, own_far h6 hn⟩
theorem RF.set {w : World} {B g i k : Nat} {r : FrR} (h : RF w B g i r) (hk : k ≠ i * 6 + 5) (v : Value) (hn : ∀ b, (fsl r).ownBlock = some b → g ≠ b) : RF (w.setCell ⟨g, k, none⟩ v) B g i r :=
  ⟨(World.cell?_setCell_other _ _ _ _ (by intro e; injection e with e1 e2 e3; omega)).trans h.1, own_far h.2 hn⟩
theorem kept_row {w w' : World} {B : Nat} {r : FrR} {l : List (Int × Int)} {row : Option Nat} (h : OwnRg w B (fsl r) l) (hg : w.grownBy w' row) (hn : ∀ b, (fsl r).ownBlock = some b → row ≠ some b) : OwnRg w' B (fsl r) l := by
  refine World.ownsRow.kept h hg ?_
  cases hq : (fsl r).ownBlock with
  | none => exact .inl rfl
  | some b => exact .inr fun e => hn b hq e.symm
theorem MF.grown {w w' : World} {B g i : Nat} {K : Int} {r : FrR} {row : Option Nat} (h : MF w B g i K r) (hg : w.grownBy w' row) (hng : some g ≠ row) (hn : ∀ b, (fsl r).ownBlock = some b → row ≠ some b) : MF w' B g i K r := by
  obtain ⟨⟨h0, h1, h2, h3, h4, h5⟩, h6⟩ := h
  have hl : g < w.heap.size := World.block_lt_of_cell? w _ h0
  have key : ∀ j, w'.cell? ⟨g, j, none⟩ = w.cell? ⟨g, j, none⟩ := fun j => World.grownBy.cell_far hg ⟨g, j, none⟩ hl hng
  exact ⟨⟨(key _).trans h0, (key _).trans h1, (key _).trans h2, (key _).trans h3, (key _).trans h4, (key _).trans h5⟩, kept_row h6 hg hn⟩
theorem RF.grown {w w' : World} {B g i : Nat} {r : FrR} {row : Option Nat} (h : RF w B g i r) (hg : w.grownBy w' row) (hng : some g ≠ row) (hn : ∀ b, (fsl r).ownBlock = some b → row ≠ some b) : RF w' B g i r := by
  have hl : g < w.heap.size := World.block_lt_of_cell? w _ h.1
  exact ⟨(World.grownBy.cell_far hg ⟨g, i * 6 + 5, none⟩ hl hng).trans h.1, kept_row h.2 hg hn⟩
theorem Wr.grown {w w' : World} {B n : Nat} {row : Option Nat} (h : Wr w B n) (hg : w.grownBy w' row) (hng : some B ≠ row) : Wr w' B n := fun k hk => by
  obtain ⟨⟨u, hu⟩, hf⟩ := h k hk
  have hl : B < w.heap.size := World.block_lt_of_cell? w _ hu
  exact ⟨⟨u, (World.grownBy.cell_far hg ⟨B, k, none⟩ hl hng).trans hu⟩, (World.grownBy.frozen_far hg ⟨B, k, none⟩ hl hng).trans hf⟩

/-- The state in the midst: frames below j are marked, those from m on are as they were. -/
structure Mks (w0 w : World) (B g n j m : Nat) (rows : List FrR) : Prop where
  wr : Wr w g (n * 6)
  mks : ∀ i, i < j → MF w B g i (Kf (rows.take i)) (rows.getD i frRD)
  rf : ∀ i, m ≤ i → i < n → RF w B g i (rows.getD i frRD)
  bel : Below B w0 w
structure Apart (g n B : Nat) (rows : List FrR) : Prop where
  row : ∀ i, i < n → ∀ b, (fsl (rows.getD i frRD)).ownBlock = some b → g ≠ b
  two : ∀ i k, i < n → k < n → i ≠ k → ∀ b, (fsl (rows.getD i frRD)).ownBlock = some b → (fsl (rows.getD k frRD)).ownBlock ≠ some b
  base : B ≤ g
theorem Mks.set {w0 w : World} {B g n j : Nat} {rows : List FrR} (h : Mks w0 w B g n j j rows) (ha : Apart g n B rows) (hj : j < n) (c : Nat) (hc : c < 5) (v : Value) : Mks w0 (w.setCell ⟨g, j * 6 + c, none⟩ v) B g n j j rows where
  wr := h.wr.set _ _
  mks := fun i hi => (h.mks i hi).set (by omega) v (ha.row i (by omega))
  rf := fun i h1 h2 => (h.rf i h1 h2).set (by omega) v (ha.row i h2)
  bel := h.bel.setCell ha.base _
theorem Mks.below {w0 w w' : World} {B g n j m : Nat} {rows : List FrR} (h : Mks w0 w B g n j m rows) (hb : Below w.heap.size w w') (hB : B ≤ w.heap.size) : Mks w0 w' B g n j m rows where
  wr := h.wr.below hb
  mks := fun i hi => (h.mks i hi).below hb
  rf := fun i h1 h2 => (h.rf i h1 h2).below hb
  bel := h.bel.trans (hb.mono hB)

theorem row_form {w : World} {B : Nat} {v : Value} {l : List FrR} (h : w.ownsRow B 29 6 v l.length (fcells l)) (hl : l ≠ []) : ∃ g c, v = .slice (some ⟨g, 0, none⟩) l.length c := by
  obtain ⟨_, ⟨rfl, h0⟩ | ⟨g, c, cur, rfl, _⟩⟩ := h
  · exact absurd (List.length_eq_zero_iff.1 h0) hl
  · exact ⟨g, c, rfl⟩
def MarkPost (w : World) (B : Nat) (v : Value) (rows : List FrR) (e : Ending) (w' : World) : Prop :=
  e = .returned (.int .i64 (Kf rows)) ∧ Below B w w' ∧ (rows = [] ∨ ∃ g c, v = .slice (some ⟨g, 0, none⟩) rows.length c ∧ ∀ i, i < rows.length → MF w' B g i (Kf (rows.take i)) (rows.getD i frRD))
theorem apart_of {w : World} {B g c : Nat} {rows : List FrR} (h : OwnFs w B (.slice (some ⟨g, 0, none⟩) rows.length c) rows) (hp : rows.Pairwise Ap) : Apart g rows.length B rows where
  row := fun i hi b hb e => (h.2 _ (takeR rows i hi).2).2 b hb (by rw [← e]; rfl)
  two := fun i k hi hk hik b hb => by
    have e1 : rows.getD i frRD = rows[i] := by rw [List.getD_eq_getElem?_getD, List.getElem?_eq_getElem hi]; rfl
    have e2 : rows.getD k frRD = rows[k] := by rw [List.getD_eq_getElem?_getD, List.getElem?_eq_getElem hk]; rfl
    rw [e1] at hb
    rw [e2]
    rw [List.pairwise_iff_getElem] at hp
    by_cases hlt : i < k
    · exact hp i k hi hk hlt b hb
    · intro e
      exact hp k i hk hi (by omega) b e hb
  base := (World.ownsRow.lt h.1 g rfl).1
theorem start_of {w : World} {B g c : Nat} {rows : List FrR} (h : OwnFs w B (.slice (some ⟨g, 0, none⟩) rows.length c) rows) : Mks w w B g rows.length 0 0 rows where
  wr := fun k hk => by
    have hc := h.1.cellAt k (by rw [Nat.mul_comm] at hk ⊢; omega)
    have hz : k < (fcells rows).length := by rw [fcells_len]; exact hk
    rw [List.getElem?_eq_getElem hz] at hc
    exact ⟨⟨_, hc⟩, h.1.frozenAt k⟩
  mks := fun i hi => by omega
  rf := fun i _ hi => by
    have e1 : rows.getD i frRD = rows[i] := by rw [List.getD_eq_getElem?_getD, List.getElem?_eq_getElem hi]; rfl
    rw [e1]
    exact ⟨(h.1.cellAt (i * 6 + 5) (by omega)).trans (fcells_at rows i 5 hi (by omega)), (h.2 _ (List.getElem_mem hi)).1⟩
  bel := Below.refl _ _
/-- The round's last step: the ranges are marked. -/
theorem mks_step {w0 W w' : World} {B g n j : Nat} {rows : List FrR} {K : Int} (h : Mks w0 W B g n j j rows) (ha : Apart g n B rows) (hj : j < n) (hK : K = Kf (rows.take j))
    (c0 : W.cell? ⟨g, j * 6, none⟩ = some (.int .i64 K) ∧ W.cell? ⟨g, j * 6 + 1, none⟩ = some (.int .i64 (K + 1)) ∧ W.cell? ⟨g, j * 6 + 2, none⟩ = some (.int .i64 (K + 2)) ∧ W.cell? ⟨g, j * 6 + 3, none⟩ = some (.int .i64 (K + 3)) ∧ W.cell? ⟨g, j * 6 + 4, none⟩ = some (.string (mtS (K + 4))))
    (hg : W.grownBy w' (fsl (rows.getD j frRD)).ownBlock) (ho : OwnRg w' B (fsl (rows.getD j frRD)) (rmF (K + 5) (rows.getD j frRD).1.rs.length)) : Mks w0 w' B g n (j + 1) (j + 1) rows := by
  have hng : some g ≠ (fsl (rows.getD j frRD)).ownBlock := fun e => ha.row j hj g e.symm rfl
  have hr := h.rf j (Nat.le_refl _) hj
  have hlg : g < W.heap.size := World.block_lt_of_cell? W _ c0.1
  have key : ∀ k, w'.cell? ⟨g, k, none⟩ = W.cell? ⟨g, k, none⟩ := fun k => World.grownBy.cell_far hg ⟨g, k, none⟩ hlg hng
  refine ⟨h.wr.grown hg hng, fun i hi => ?_, fun i h1 h2 => (h.rf i (by omega) h2).grown hg hng (fun b hb e => ha.two i j h2 hj (by omega) b hb e), h.bel.grown hg (by have := ha.base; omega) (fun k hk => (World.ownsRow.lt hr.2 k hk).1)⟩
  by_cases e : i = j
  · subst e
    rw [← hK]
    exact ⟨⟨(key _).trans c0.1, (key _).trans c0.2.1, (key _).trans c0.2.2.1, (key _).trans c0.2.2.2.1, (key _).trans c0.2.2.2.2, (key _).trans hr.1⟩, ho⟩
  · exact (h.mks i (by omega)).grown hg hng (fun b hb e2 => ha.two i j (by omega) hj e b hb e2)

set_option maxRecDepth 100000 in
set_option maxHeartbeats 2000000 in
theorem markfs_any (v : Value) (rows : List FrR) (B : Nat) (w : World) (h : OwnFs w B v rows) (hp : rows.Pairwise Ap) (h6 : rows.length ≤ 6) (h16 : ∀ r ∈ rows, r.1.rs.length ≤ 16) :
    Calls Try.prog 27 #[v, .int .i64 1] w (MarkPost w B v rows) := by
  by_cases h0 : rows = []
  · subst h0
    obtain ⟨a, c, rfl⟩ := ownsRow_shape h.1
    clear h
    go_enter Try.func27, Try.ntmps27
    go_wp2_with fail
    refine wp_loop_rounds 1 ?_
    rw [rounds_succ]
    go_wp2_with fail
    go_ret
    exact ⟨rfl, Below.refl _ _, .inl rfl⟩
  obtain ⟨g, c, rfl⟩ := row_form h.1 h0
  have HA := Lib.hid (apart_of h hp)
  have H0 := Lib.hid (start_of h)
  have H16 := Lib.hid h16
  have hBw : B ≤ w.heap.size := by have := (World.ownsRow.lt h.1 g rfl); omega
  clear h hp h16 h0
  go_enter Try.func27, Try.ntmps27
  go_wp2_with fail
  go_loopw [1, 5] (fun kv iv wr => ∃ (j : Nat) (K : Int), j ≤ rows.length ∧ iv = .int .i64 (j : Int) ∧ kv = .int .i64 K ∧ Hid (K = Kf (rows.take j)) ∧ Hid (Mks w wr B g rows.length j j rows)) (fun _ iv _ => rows.length - (intOf iv).toNat)
  case atStart => exact ⟨0, 1, Nat.zero_le _, rfl, rfl, rfl, H0.out⟩
  case round =>
    obtain ⟨j, K, hj, rfl, rfl, HK, HM⟩ := hrel
    by_cases hlt : j < rows.length
    · have hlt' : (j : Int) < (rows.length : Int) := by omega
      have hkb := Kf_bnd (rows.take j) (fun r hr => H16.out r (List.mem_of_mem_take hr))
      rw [← HK.out] at hkb
      have hlj := List.length_take_le j rows
      have hr16 := H16.out _ (takeR rows j hlt).2
      obtain ⟨r, hre⟩ : ∃ r, rows.getD j frRD = r := ⟨_, rfl⟩
      have HRE := Lib.hid hre
      rw [hre] at hr16
      clear hre
      have HKS : Hid (Kf (rows.take (j + 1)) = K + 5 + 2 * (r.1.rs.length : Int)) := Lib.hid (by rw [(takeR rows j hlt).1, Kf_snoc, ← HK.out, HRE.out])
      have hK0 : 1 ≤ K ∧ K ≤ 300 := by omega
      obtain ⟨⟨u0, d0⟩, t0⟩ := HM.out.wr (j * 6) (by omega)
      obtain ⟨⟨u1, d1⟩, t1⟩ := HM.out.wr (j * 6 + 1) (by omega)
      obtain ⟨⟨u2, d2⟩, t2⟩ := HM.out.wr (j * 6 + 2) (by omega)
      obtain ⟨⟨u3, d3⟩, t3⟩ := HM.out.wr (j * 6 + 3) (by omega)
      have v1 : IntKind.i64.wrap (K + 1) = K + 1 := IntWalk.i64_in _ (by omega)
      have v2 : IntKind.i64.wrap (K + 2) = K + 2 := IntWalk.i64_in _ (by omega)
      have v3 : IntKind.i64.wrap (K + 3) = K + 3 := IntWalk.i64_in _ (by omega)
      have v4 : IntKind.i64.wrap (K + 4) = K + 4 := IntWalk.i64_in _ (by omega)
      have v5 : IntKind.i64.wrap (K + 5) = K + 5 := IntWalk.i64_in _ (by omega)
      have M4 : Hid (Mks w ((((wr.setCell ⟨g, j * 6, none⟩ (.int .i64 K)).setCell ⟨g, j * 6 + 1, none⟩ (.int .i64 (K + 1))).setCell ⟨g, j * 6 + 2, none⟩ (.int .i64 (K + 1 + 1))).setCell ⟨g, j * 6 + 3, none⟩ (.int .i64 (K + 1 + 1 + 1))) B g rows.length j j rows) := Lib.hid ((((HM.out.set HA.out hlt 0 (by omega) (.int .i64 K)).set HA.out hlt 1 (by omega) (.int .i64 (K + 1))).set HA.out hlt 2 (by omega) (.int .i64 (K + 1 + 1))).set HA.out hlt 3 (by omega) (.int .i64 (K + 1 + 1 + 1)))
      have C4 : Hid (((((wr.setCell ⟨g, j * 6, none⟩ (.int .i64 K)).setCell ⟨g, j * 6 + 1, none⟩ (.int .i64 (K + 1))).setCell ⟨g, j * 6 + 2, none⟩ (.int .i64 (K + 1 + 1))).setCell ⟨g, j * 6 + 3, none⟩ (.int .i64 (K + 1 + 1 + 1))).cell? ⟨g, j * 6, none⟩ = some (.int .i64 K) ∧ ((((wr.setCell ⟨g, j * 6, none⟩ (.int .i64 K)).setCell ⟨g, j * 6 + 1, none⟩ (.int .i64 (K + 1))).setCell ⟨g, j * 6 + 2, none⟩ (.int .i64 (K + 1 + 1))).setCell ⟨g, j * 6 + 3, none⟩ (.int .i64 (K + 1 + 1 + 1))).cell? ⟨g, j * 6 + 1, none⟩ = some (.int .i64 (K + 1)) ∧ ((((wr.setCell ⟨g, j * 6, none⟩ (.int .i64 K)).setCell ⟨g, j * 6 + 1, none⟩ (.int .i64 (K + 1))).setCell ⟨g, j * 6 + 2, none⟩ (.int .i64 (K + 1 + 1))).setCell ⟨g, j * 6 + 3, none⟩ (.int .i64 (K + 1 + 1 + 1))).cell? ⟨g, j * 6 + 2, none⟩ = some (.int .i64 (K + 1 + 1)) ∧ ((((wr.setCell ⟨g, j * 6, none⟩ (.int .i64 K)).setCell ⟨g, j * 6 + 1, none⟩ (.int .i64 (K + 1))).setCell ⟨g, j * 6 + 2, none⟩ (.int .i64 (K + 1 + 1))).setCell ⟨g, j * 6 + 3, none⟩ (.int .i64 (K + 1 + 1 + 1))).cell? ⟨g, j * 6 + 3, none⟩ = some (.int .i64 (K + 1 + 1 + 1))) := Lib.hid (by
        have oth : ∀ (W : World) (k m : Nat) (v : Value), k ≠ m → (W.setCell ⟨g, k, none⟩ v).cell? ⟨g, m, none⟩ = W.cell? ⟨g, m, none⟩ := fun W k m v h => World.cell?_setCell_other _ _ _ _ (by intro q; injection q with q1 q2 q3; exact h q2)
        refine ⟨?_, ?_, ?_, ?_⟩
        · rw [oth _ _ _ _ (by omega), oth _ _ _ _ (by omega), oth _ _ _ _ (by omega)]; exact World.cell?_setCell_same _ _ _ d0
        · rw [oth _ _ _ _ (by omega), oth _ _ _ _ (by omega)]; exact World.cell?_setCell_same _ _ _ ((oth _ _ _ _ (by omega)).trans d1)
        · rw [oth _ _ _ _ (by omega)]; exact World.cell?_setCell_same _ _ _ ((oth _ _ _ _ (by omega)).trans ((oth _ _ _ _ (by omega)).trans d2))
        · exact World.cell?_setCell_same _ _ _ ((oth _ _ _ _ (by omega)).trans ((oth _ _ _ _ (by omega)).trans ((oth _ _ _ _ (by omega)).trans d3))))
      go_wp2_with fail
      generalize ((((wr.setCell ⟨g, j * 6, none⟩ (.int .i64 K)).setCell ⟨g, j * 6 + 1, none⟩ (.int .i64 (K + 1))).setCell ⟨g, j * 6 + 2, none⟩ (.int .i64 (K + 1 + 1))).setCell ⟨g, j * 6 + 3, none⟩ (.int .i64 (K + 1 + 1 + 1))) = W4 at *
      refine (mt_any _ _ (by omega) (by omega)).mono ?_
      rintro e w5 ⟨rfl, hb5⟩
      have hlg : g < W4.heap.size := World.block_lt_of_cell? W4 _ C4.out.1
      have M5 := Lib.hid (M4.out.below hb5 (by have := M4.out.bel.size; omega))
      have C5 : Hid (w5.cell? ⟨g, j * 6, none⟩ = some (.int .i64 K) ∧ w5.cell? ⟨g, j * 6 + 1, none⟩ = some (.int .i64 (K + 1)) ∧ w5.cell? ⟨g, j * 6 + 2, none⟩ = some (.int .i64 (K + 1 + 1)) ∧ w5.cell? ⟨g, j * 6 + 3, none⟩ = some (.int .i64 (K + 1 + 1 + 1))) := Lib.hid ⟨(hb5.cell hlg).trans C4.out.1, (hb5.cell hlg).trans C4.out.2.1, (hb5.cell hlg).trans C4.out.2.2.1, (hb5.cell hlg).trans C4.out.2.2.2⟩
      obtain ⟨⟨u4, d4⟩, t4⟩ := M5.out.wr (j * 6 + 4) (by omega)
      have M6 := Lib.hid (M5.out.set HA.out hlt 4 (by omega) (.string (mtS (K + 1 + 1 + 1 + 1))))
      have oth : ∀ (m : Nat), j * 6 + 4 ≠ m → (w5.setCell ⟨g, j * 6 + 4, none⟩ (.string (mtS (K + 1 + 1 + 1 + 1)))).cell? ⟨g, m, none⟩ = w5.cell? ⟨g, m, none⟩ := fun m h => World.cell?_setCell_other _ _ _ _ (by intro q; injection q with q1 q2 q3; exact h q2)
      have C6 : Hid ((w5.setCell ⟨g, j * 6 + 4, none⟩ (.string (mtS (K + 1 + 1 + 1 + 1)))).cell? ⟨g, j * 6, none⟩ = some (.int .i64 K) ∧ (w5.setCell ⟨g, j * 6 + 4, none⟩ (.string (mtS (K + 1 + 1 + 1 + 1)))).cell? ⟨g, j * 6 + 1, none⟩ = some (.int .i64 (K + 1)) ∧ (w5.setCell ⟨g, j * 6 + 4, none⟩ (.string (mtS (K + 1 + 1 + 1 + 1)))).cell? ⟨g, j * 6 + 2, none⟩ = some (.int .i64 (K + 2)) ∧ (w5.setCell ⟨g, j * 6 + 4, none⟩ (.string (mtS (K + 1 + 1 + 1 + 1)))).cell? ⟨g, j * 6 + 3, none⟩ = some (.int .i64 (K + 3)) ∧ (w5.setCell ⟨g, j * 6 + 4, none⟩ (.string (mtS (K + 1 + 1 + 1 + 1)))).cell? ⟨g, j * 6 + 4, none⟩ = some (.string (mtS (K + 4)))) := Lib.hid ⟨(oth _ (by omega)).trans C5.out.1, (oth _ (by omega)).trans (C5.out.2.1), (oth _ (by omega)).trans (by rw [show K + 2 = K + 1 + 1 from by omega]; exact C5.out.2.2.1), (oth _ (by omega)).trans (by rw [show K + 3 = K + 1 + 1 + 1 from by omega]; exact C5.out.2.2.2), by rw [show K + 4 = K + 1 + 1 + 1 + 1 from by omega]; exact World.cell?_setCell_same _ _ _ d4⟩
      have e5 : w5.cell? ⟨g, j * 6 + 5, none⟩ = some (fsl r) := by rw [← HRE.out]; exact (M5.out.rf j (Nat.le_refl _) hlt).1
      have O6 := Lib.hid (M6.out.rf j (Nat.le_refl _) hlt).2
      rw [HRE.out] at O6
      clear hb5 oth d0 d1 d2 d3 t0 t1 t2 t3
      go_wp2_with fail
      generalize (w5.setCell ⟨g, j * 6 + 4, none⟩ (.string (mtS (K + 1 + 1 + 1 + 1)))) = W6 at *
      refine (markf_any _ _ (K + 1 + 1 + 1 + 1 + 1) B _ O6.out (by omega) (by omega) (by omega)).mono ?_
      rintro e w7 ⟨rfl, hg7, ho7⟩
      have M7 := Lib.hid (mks_step M6.out HA.out hlt HK.out C6.out (by rw [HRE.out]; exact hg7) (by rw [HRE.out, show K + 5 = K + 1 + 1 + 1 + 1 + 1 from by omega]; exact ho7))
      clear hg7 ho7 d4 t4 e5
      have hkn : K + 1 + 1 + 1 + 1 + 1 + 2 * (r.1.rs.length : Int) = K + 5 + 2 * (r.1.rs.length : Int) := by omega
      have HKN : Hid (K + 1 + 1 + 1 + 1 + 1 + 2 * (r.1.rs.length : Int) = Kf (rows.take (j + 1))) := Lib.hid (by rw [HKS.out]; omega)
      clear hkn
      generalize K + 1 + 1 + 1 + 1 + 1 + 2 * (r.1.rs.length : Int) = K2 at *
      go_wp2_with fail
      go_roundw
      case rel => exact ⟨j + 1, K2, by omega, by go_num, rfl, HKN.out, M7.out⟩
      case measure => simp [intOf]; omega
    · have hlt' : ¬ (j : Int) < (rows.length : Int) := by omega
      have HKE : Hid (K = Kf rows) := Lib.hid (by rw [HK.out, List.take_of_length_le (by omega)])
      go_wp2_with fail
      go_ret
      exact ⟨ret_int HKE.out, HM.out.bel, .inr ⟨g, c, rfl, fun i hi => HM.out.mks i (by omega)⟩⟩

set_option maxRecDepth 100000 in
set_option maxHeartbeats 2000000 in
theorem heldfs_any (g c B : Nat) (rows : List FrR) (w : World) (h : ∀ i, i < rows.length → MF w B g i (Kf (rows.take i)) (rows.getD i frRD)) (h6 : rows.length ≤ 6) (h16 : ∀ r ∈ rows, r.1.rs.length ≤ 16) :
    Calls Try.prog 28 #[.slice (some ⟨g, 0, none⟩) rows.length c, .int .i64 1] w fun e w' => e = .returned (.int .i64 (Kf rows)) ∧ Below w.heap.size w w' := by
  have HM := Lib.hid h
  have H16 := Lib.hid h16
  clear h h16
  go_enter Try.func28, Try.ntmps28
  go_wp2_with fail
  go_loopw [1, 5] (fun kv iv wr => ∃ (j : Nat) (K : Int), j ≤ rows.length ∧ iv = .int .i64 (j : Int) ∧ kv = .int .i64 K ∧ Hid (K = Kf (rows.take j)) ∧ Hid (Below w.heap.size w wr)) (fun _ iv _ => rows.length - (intOf iv).toNat)
  case atStart => exact ⟨0, 1, Nat.zero_le _, rfl, rfl, rfl, Below.refl _ _⟩
  case round =>
    obtain ⟨j, K, hj, rfl, rfl, HK, HB⟩ := hrel
    by_cases hlt : j < rows.length
    · have hlt' : (j : Int) < (rows.length : Int) := by omega
      have hkb := Kf_bnd (rows.take j) (fun r hr => H16.out r (List.mem_of_mem_take hr))
      rw [← HK.out] at hkb
      have hlj := List.length_take_le j rows
      have hr16 := H16.out _ (takeR rows j hlt).2
      have hmf := (HM.out j hlt).below HB.out
      rw [← HK.out] at hmf
      obtain ⟨r, hre⟩ : ∃ r, rows.getD j frRD = r := ⟨_, rfl⟩
      have HKS : Hid (Kf (rows.take (j + 1)) = K + 5 + 2 * (r.1.rs.length : Int)) := Lib.hid (by rw [(takeR rows j hlt).1, Kf_snoc, ← HK.out, hre])
      rw [hre] at hr16 hmf
      clear hre
      have HMF := Lib.hid hmf
      obtain ⟨⟨c0, c1, c2, c3, c4, c5⟩, ho⟩ := hmf
      have hK0 : 1 ≤ K ∧ K ≤ 300 := by omega
      have v1 : IntKind.i64.wrap (K + 1) = K + 1 := IntWalk.i64_in _ (by omega)
      have v2 : IntKind.i64.wrap (K + 2) = K + 2 := IntWalk.i64_in _ (by omega)
      have v3 : IntKind.i64.wrap (K + 3) = K + 3 := IntWalk.i64_in _ (by omega)
      have v4 : IntKind.i64.wrap (K + 4) = K + 4 := IntWalk.i64_in _ (by omega)
      have v5 : IntKind.i64.wrap (K + 5) = K + 5 := IntWalk.i64_in _ (by omega)
      have n0 : (K != K) = false := by simp
      have n1 : ((K + 1) != (K + 1)) = false := by simp
      have n2 : ((K + 2) != (K + 1 + 1)) = false := by rw [bne_eq_false_iff_eq]; omega
      have n3 : ((K + 3) != (K + 1 + 1 + 1)) = false := by rw [bne_eq_false_iff_eq]; omega
      clear ho
      have c4' : wr.cell? ⟨g, j * 6 + 4, none⟩ = some (.string (mtS (K + 1 + 1 + 1 + 1))) := by rw [c4, show K + 4 = K + 1 + 1 + 1 + 1 from by omega]
      have HMT := Lib.hid (fun W => mt_any (K + 1 + 1 + 1 + 1) W (by omega) (by omega))
      have hlg : g < wr.drew.heap.size := World.block_lt_of_cell? wr _ c0
      generalize mtS (K + 1 + 1 + 1 + 1) = ms at *
      have C4 : Hid (wr.drew.cell? ⟨g, j * 6 + 4, none⟩ = some (.string ms)) := Lib.hid c4'
      have HMd : Hid (MF wr.drew B g j K r) := Lib.hid (HMF.out.below (Below.refl _ _).drew)
      have HLG := Lib.hid hlg
      have HBd := Lib.hid HB.out.drew
      clear c4 hlg
      go_wp2_with fail
      clear c0 c1 c2 c3 c5
      go_region_held3 (fun w' => w'.cell? ⟨g, j * 6 + 4, none⟩ = some (.string ms)) (with_reducible first | assumption | exact C4.out | exact k2)
        ((go_at_call 46; refine (HMT.out _).mono ?_; rintro e w2 ⟨rfl, hb2⟩; have k2 : w2.cell? ⟨g, j * 6 + 4, none⟩ = some (.string ms) := (hb2.cell HLG.out).trans C4.out))
      have HB2 := Lib.hid (HBd.out.trans (hb2.mono HBd.out.size))
      have hm2 := HMd.out.below hb2
      obtain ⟨⟨_, _, _, _, _, e5⟩, ho2⟩ := hm2
      have hr2 := Rngs.of_own ho2
      rw [show K + 5 = K + 1 + 1 + 1 + 1 + 1 from by omega] at hr2
      have HHD := Lib.hid (heldf_any (fsl r) (K + 1 + 1 + 1 + 1 + 1) r.1.rs.length w2 hr2 (by omega) (by omega) (by omega))
      have HKN : Hid (K + 1 + 1 + 1 + 1 + 1 + 2 * (r.1.rs.length : Int) = Kf (rows.take (j + 1))) := Lib.hid (by rw [HKS.out]; omega)
      have hng : ¬ K + 1 + 1 + 1 + 1 + 1 + 2 * (r.1.rs.length : Int) < 0 := by omega
      generalize K + 1 + 1 + 1 + 1 + 1 + 2 * (r.1.rs.length : Int) = K2 at *
      clear hb2 k2 ho2 hr2
      go_wp2_with fail
      refine HHD.out.mono ?_
      rintro e w3 ⟨rfl, rfl⟩
      go_wp2_with fail
      go_roundw
      case rel => exact ⟨j + 1, K2, by omega, by go_num, rfl, HKN.out, HB2.out⟩
      case measure => simp [intOf]; omega
    · have hlt' : ¬ (j : Int) < (rows.length : Int) := by omega
      have HKE : Hid (K = Kf rows) := Lib.hid (by rw [HK.out, List.take_of_length_le (by omega)])
      go_wp2_with fail
      go_ret
      exact ⟨ret_int HKE.out, HB.out⟩
end Go.Proofs.Ythflokonihegbab
