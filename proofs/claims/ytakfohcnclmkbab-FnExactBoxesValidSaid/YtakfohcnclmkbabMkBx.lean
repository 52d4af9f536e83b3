/- markBoxS: what it writes, and no more. -/
import Derived.Test.YtakfohcnclmkbabToBs
import Derived.Test.YtakfohcnclmkbabMark
namespace Go.Proofs.Ytakfohcnclmkbab
open Go.RowKit
set_option linter.unusedVariables false
set_option linter.unusedSimpArgs false

/-- An int that may be written. -/
def IC (w : World) (p : Addr) : Prop := (∃ x, w.cell? p = some (.int .i64 x)) ∧ w.frozen? p = false
theorem IC.set {w : World} {p : Addr} (h : IC w p) (a : Addr) (x : Int) : IC (w.setCell a (.int .i64 x)) p := by
  obtain ⟨⟨y, hy⟩, hf⟩ := h
  refine ⟨?_, by rw [World.frozen?_setCell]; exact hf⟩
  by_cases e : a = p
  · subst e; exact ⟨x, World.cell?_setCell_same _ _ _ hy⟩
  · exact ⟨y, (World.cell?_setCell_other _ _ _ _ e).trans hy⟩
/-- One block was written, with ints where ints lay. -/
structure Wb (q : Nat) (w w' : World) : Prop where
  grown : w.grownBy w' (some q)
  ints : ∀ p, IC w p → IC w' p
theorem Wb.refl (q : Nat) (w : World) : Wb q w w := ⟨World.grownBy.refl _ _, fun _ h => h⟩
theorem grown_set (w : World) (q j : Nat) (u : Value) : w.grownBy (w.setCell ⟨q, j, none⟩ u) (some q) :=
  ⟨rfl, rfl, rfl, by simp, fun k _ hk => Below.heap_setCell _ _ _ _ (fun e => hk (by rw [e]))⟩
theorem Wb.set {q : Nat} {w w' : World} (h : Wb q w w') (j : Nat) (x : Int) : Wb q w (w'.setCell ⟨q, j, none⟩ (.int .i64 x)) :=
  ⟨h.grown.trans (grown_set w' q j _), fun p hp => (h.ints p hp).set _ _⟩

set_option maxRecDepth 100000 in
set_option maxHeartbeats 1000000 in
theorem markw_any (q n c : Nat) (k : Int) (w : World) (h : ∀ j, j < n → IC w ⟨q, j, none⟩) (hk0 : 0 ≤ k) (hk : k ≤ 4398046511104) (hn : n ≤ 1048576) :
    Calls Try.prog 18 #[.slice (some ⟨q, 0, none⟩) n c, .int .i64 k] w fun e w' => e = .returned (.int .i64 (k + (n : Int))) ∧ Wb q w w' := by
  have H := Lib.hid h
  clear h
  go_enter Try.func18, Try.ntmps18
  go_wp2_with fail
  go_loopw [1, 5] (fun kv iv wr => ∃ j : Nat, j ≤ n ∧ kv = .int .i64 (k + (j : Int)) ∧ iv = .int .i64 (j : Int) ∧ Hid (Wb q w wr)) (fun _ iv _ => n - (intOf iv).toNat)
  case atStart => exact ⟨0, Nat.zero_le _, by simp, rfl, Wb.refl _ _⟩
  case round =>
    obtain ⟨j, hj, rfl, rfl, HW⟩ := hrel
    by_cases hlt : j < n
    · have hlt' : (j : Int) < (n : Int) := by omega
      obtain ⟨⟨x, hc⟩, hf⟩ := HW.out.ints _ (H.out j hlt)
      have HW2 := Lib.hid (HW.out.set j (k + (j : Int)))
      have hw1 : IntKind.i64.wrap (k + (j : Int)) = k + (j : Int) := IntWalk.i64_in _ (by omega)
      have hw2 : IntKind.i64.wrap (k + (j : Int) + 1) = k + (j : Int) + 1 := IntWalk.i64_in _ (by omega)
      go_wp2_with fail
      go_roundw
      case rel => exact ⟨j + 1, by omega, by go_num, by go_num, HW2⟩
      case measure => simp [intOf]; omega
    · have he : j = n := by omega
      have HE := Lib.hid he
      have hlt' : ¬ (j : Int) < (n : Int) := by omega
      clear he
      go_wp2_with fail
      go_ret
      exact ⟨ret_i64 (by rw [HE.out]), HW.out⟩

/-- The blocks below B and from T on are as they were. -/
structure Spn (B T : Nat) (w w' : World) : Prop where
  os : w'.os = w.os
  tape : w'.tape = w.tape
  output : w'.output = w.output
  size : w.heap.size ≤ w'.heap.size
  block : ∀ k, k < w.heap.size → (k < B ∨ T ≤ k) → w'.heap[k]? = w.heap[k]?
theorem Spn.refl (B T : Nat) (w : World) : Spn B T w w := ⟨rfl, rfl, rfl, Nat.le_refl _, fun _ _ _ => rfl⟩
theorem Spn.trans {B T : Nat} {a b c : World} (h : Spn B T a b) (k : Spn B T b c) : Spn B T a c :=
  ⟨k.os.trans h.os, k.tape.trans h.tape, k.output.trans h.output, Nat.le_trans h.size k.size, fun i hi hb => (k.block i (Nat.lt_of_lt_of_le hi h.size) hb).trans (h.block i hi hb)⟩
theorem Spn.wb {B T q : Nat} {w w' : World} (h : Wb q w w') (h1 : B ≤ q) (h2 : q < T) : Spn B T w w' :=
  ⟨h.grown.os, h.grown.tape, h.grown.output, h.grown.size, fun k hk hb => h.grown.block k hk (by intro e; injection e with e; omega)⟩
theorem Spn.below {B T : Nat} {w w' : World} (h : Spn B T w w') (hB : B ≤ w.heap.size) : Below B w w' := ⟨h.os, h.tape, h.output, h.size, fun k hk => h.block k (by omega) (.inl hk)⟩
theorem Spn.own {B T N : Nat} {w w' : World} {v : Value} {xs : List Int} (h : Spn B T w w') (ho : OwnI w N v xs) (hN : T ≤ N) : OwnI w' N v xs := by
  obtain ⟨h0, h1 | ⟨g, c, cur, e, hb, hg, hr⟩⟩ := ho
  · exact ⟨h0, .inl h1⟩
  · exact ⟨h0, .inr ⟨g, c, cur, e, hb, (h.block g (Array.getElem?_eq_some_iff.1 hg).1 (.inr (by omega))).trans hg, hr⟩⟩

/-- The state in the midst: the slices lie where they lay, their ints may be written. -/
structure MB (w : World) (g T : Nat) (l : List Bx) : Prop where
  wr : Wr w g (l.length * 2)
  ins : ∀ i, i < l.length → ∃ q c, w.cell? ⟨g, i * 2 + 1, none⟩ = some (.slice (some ⟨q, 0, none⟩) (l.getD i bxD).2.length c) ∧ g < q ∧ q < T ∧ ∀ k, k < (l.getD i bxD).2.length → IC w ⟨q, k, none⟩
theorem ToB.mb {w : World} {g : Nat} {l : List Bx} (h : ToB w g l) : MB w g w.heap.size l := ⟨h.wr, fun i hi => by
  obtain ⟨q, c, h0, h1, h2⟩ := h.tb i hi
  have hq : g + 1 ≤ q ∧ q < w.heap.size := OwnI.lt h2 rfl
  refine ⟨q, c, h1, by omega, hq.2, fun k hk => ?_⟩
  have hc := World.ownsRow.cellAt h2 k (by omega)
  rw [List.getElem?_map, List.getElem?_eq_getElem hk] at hc
  exact ⟨⟨_, hc⟩, World.ownsRow.frozenAt h2 k⟩⟩
theorem MB.mono {w w' : World} {g T : Nat} {l : List Bx} (h : MB w g T l) (hb : Below w.heap.size w w') : MB w' g T l := ⟨h.wr.below hb, fun i hi => by
  obtain ⟨q, c, h1, h2, h3, h4⟩ := h.ins i hi
  refine ⟨q, c, (hb.cell (World.block_lt_of_cell? _ _ h1)).trans h1, h2, h3, fun k hk => ?_⟩
  obtain ⟨⟨x, hx⟩, hf⟩ := h4 k hk
  have hl : q < w.heap.size := World.block_lt_of_cell? w _ hx
  exact ⟨⟨x, (hb.cell hl).trans hx⟩, (hb.frozen (p := ⟨q, k, none⟩) hl).trans hf⟩⟩
theorem MB.key {w : World} {g T : Nat} {l : List Bx} (h : MB w g T l) (j : Nat) (x : Int) : MB (w.setCell ⟨g, j * 2, none⟩ (.int .i64 x)) g T l := ⟨h.wr.set _ _, fun i hi => by
  obtain ⟨q, c, h1, h2, h3, h4⟩ := h.ins i hi
  exact ⟨q, c, (World.cell?_setCell_other _ _ _ _ (by intro e; injection e with e1 e2 e3; omega)).trans h1, h2, h3, fun k hk => (h4 k hk).set _ _⟩⟩
theorem MB.wb {w w' : World} {g T q : Nat} {l : List Bx} (h : MB w g T l) (hw : Wb q w w') (hq : g < q) : MB w' g T l := ⟨h.wr.grown hw.grown (by intro e; injection e with e; omega), fun i hi => by
  obtain ⟨q', c, h1, h2, h3, h4⟩ := h.ins i hi
  exact ⟨q', c, (World.grownBy.cell_far hw.grown ⟨g, i * 2 + 1, none⟩ (World.block_lt_of_cell? w _ h1) (by intro e; injection e with e; exact absurd e (by show g ≠ q; omega))).trans h1, h2, h3, fun k hk => hw.ints _ (h4 k hk)⟩⟩

set_option maxRecDepth 100000 in
set_option maxHeartbeats 2000000 in
theorem markbs_any (g c T : Nat) (l : List Bx) (w : World) (h : MB w g T l) (hT : g < T) (hl : l.length ≤ 1048576) (hlen : ∀ b ∈ l, b.2.length ≤ 1048576) :
    Calls Try.prog 17 #[.slice (some ⟨g, 0, none⟩) l.length c, .int .i64 1] w fun e w' => ∃ K : Int, e = .returned (.int .i64 K) ∧ 1 ≤ K ∧ K ≤ 1 + 1048577 * (l.length : Int) ∧ Spn g T w w' := by
  have HM := Lib.hid h
  have HLN := Lib.hid hlen
  clear h hlen
  go_enter Try.func17, Try.ntmps17
  go_wp2_with fail
  go_loopw [1, 5] (fun kv iv wr => ∃ (j : Nat) (K : Int), j ≤ l.length ∧ kv = .int .i64 K ∧ iv = .int .i64 (j : Int) ∧ (1 ≤ K ∧ K ≤ 1 + 1048577 * (j : Int)) ∧ Hid (MB wr g T l) ∧ Hid (Spn g T w wr)) (fun _ iv _ => l.length - (intOf iv).toNat)
  case atStart => exact ⟨0, 1, Nat.zero_le _, rfl, rfl, by omega, HM, Spn.refl _ _ _⟩
  case round =>
    clear HM
    obtain ⟨j, K, hj, rfl, rfl, hK, HM, HS⟩ := hrel
    by_cases hlt : j < l.length
    · have hlt' : (j : Int) < (l.length : Int) := by omega
      have hbd := HLN.out _ (takeB l j hlt).2
      obtain ⟨⟨u0, d0⟩, t0⟩ := HM.out.wr (j * 2) (by omega)
      have HM1 := Lib.hid (HM.out.key j K)
      have HS1 := Lib.hid (HS.out.trans (Spn.wb (B := g) (T := T) ⟨grown_set wr g (j * 2) (.int .i64 K), fun p hp => hp.set _ _⟩ (Nat.le_refl _) hT))
      obtain ⟨q, c2, h1, h2, h3, h4⟩ := HM1.out.ins j hlt
      have HQ := Lib.hid (And.intro h2 h3)
      have hv1 : IntKind.i64.wrap K = K := IntWalk.i64_in _ (by omega)
      have hv2 : IntKind.i64.wrap (K + 1) = K + 1 := IntWalk.i64_in _ (by omega)
      generalize (l.getD j bxD).2.length = n at *
      have HW : Hid (Calls Try.prog 18 #[.slice (some ⟨q, 0, none⟩) n c2, .int .i64 (K + 1)] (wr.setCell ⟨g, j * 2, none⟩ (.int .i64 K)) fun e w' => e = .returned (.int .i64 (K + 1 + (n : Int))) ∧ Wb q (wr.setCell ⟨g, j * 2, none⟩ (.int .i64 K)) w') := Lib.hid (markw_any q n c2 (K + 1) _ h4 (by omega) (by omega) hbd)
      have hK2 : 1 ≤ K + 1 + (n : Int) ∧ K + 1 + (n : Int) ≤ 1 + 1048577 * ((j + 1 : Nat) : Int) := by omega
      have HK2 := Lib.hid hK2
      generalize K + 1 + (n : Int) = K2 at *
      clear h2 h3 h4 hK2 hbd
      go_wp2_with fail
      refine HW.out.mono ?_
      rintro e w3 ⟨rfl, hw⟩
      have HM3 := Lib.hid (HM1.out.wb hw HQ.out.1)
      have HS3 := Lib.hid (HS1.out.trans (Spn.wb hw (Nat.le_of_lt HQ.out.1) HQ.out.2))
      clear hw d0 t0 h1
      go_wp2_with fail
      go_roundw
      case rel => exact ⟨j + 1, K2, by omega, rfl, by go_num, HK2.out, HM3, HS3⟩
      case measure => simp [intOf]; omega
    · have hlt' : ¬ (j : Int) < (l.length : Int) := by omega
      have HKK : Hid (1 ≤ K ∧ K ≤ 1 + 1048577 * (l.length : Int)) := Lib.hid (by omega)
      clear hK
      go_wp2_with fail
      go_ret
      exact ⟨K, rfl, HKK.out.1, HKK.out.2, HS.out⟩
end Go.Proofs.Ytakfohcnclmkbab
