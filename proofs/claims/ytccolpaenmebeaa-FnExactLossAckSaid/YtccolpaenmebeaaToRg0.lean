/- toRange, toRangeS: a copy in new memory. -/
import Derived.Test.YtccolpaenmebeaaRg
import Derived.Test.YtccolpaenmebeaaRgOwn
namespace Go.Proofs.Ytccolpaenmebeaa
open Go.RowKit
set_option linter.unusedVariables false
set_option linter.unusedSimpArgs false

set_option maxRecDepth 100000 in
set_option maxHeartbeats 1000000 in
theorem torange_any (x y : Int) (w : World) : Calls Try.prog 48 #[.agg #[.int .i64 x, .int .i64 y]] w fun e w' => e = .returned (.agg #[.int .i64 x, .int .i64 y]) ∧ Below w.heap.size w w' := by
  go_enter Try.func48, Try.ntmps48
  go_wp2_with fail
  have hB : Below w.heap.size w (((w.alloc (.cells #[.int .i64 x, .int .i64 y] 73)).alloc (.cells #[.int .i64 x, .int .i64 y] 69)).alloc (.cells #[.int .i64 x, .int .i64 y] 69)) := (((Below.refl _ w).alloc (Nat.le_refl _) _).alloc (by simp) _).alloc (by simp; omega) _
  refine bodyPost_ret (v := .agg #[.int .i64 x, .int .i64 y]) ?_ rfl ⟨rfl, hB⟩
  simp [results, Try.f48, go_sem]

def cpr (j : Nat) (l : List (Int × Int)) : List (Int × Int) := l.take j ++ List.replicate (l.length - j) (0, 0)
theorem cpr_len (j : Nat) (l : List (Int × Int)) (h : j ≤ l.length) : (cpr j l).length = l.length := by simp [cpr]; omega
theorem cpr_all (l : List (Int × Int)) : cpr l.length l = l := by simp [cpr]
theorem rcells_app2 (l m : List (Int × Int)) : rcells (l ++ m) = rcells l ++ rcells m := by simp [rcells]
theorem cpr_step (j : Nat) (l : List (Int × Int)) (h : j < l.length) : ((rcells (cpr j l)).set (j * 2) (.int .i64 (l.getD j (0, 0)).1)).set (j * 2 + 1) (.int .i64 (l.getD j (0, 0)).2) = rcells (cpr (j + 1) l) := by
  have d : List.replicate (l.length - j) ((0, 0) : Int × Int) = (0, 0) :: List.replicate (l.length - (j + 1)) (0, 0) := by
    have : l.length - j = (l.length - (j + 1)) + 1 := by omega
    rw [this, List.replicate_succ]
  have hl : (rcells (l.take j)).length = j * 2 := by rw [rcells_len]; simp; omega
  unfold cpr
  rw [d, take_get l j h, rcells_app2, rcells_app2, rcells_app2]
  have e1 : rcells ((0, 0) :: List.replicate (l.length - (j + 1)) ((0, 0) : Int × Int)) = .int .i64 0 :: .int .i64 0 :: rcells (List.replicate (l.length - (j + 1)) (0, 0)) := by simp [rcells]
  have e2 : rcells [l.getD j (0, 0)] = [.int .i64 (l.getD j (0, 0)).1, .int .i64 (l.getD j (0, 0)).2] := by simp [rcells]
  rw [e1, e2, List.set_append_right _ _ (by omega), hl, Nat.sub_self, List.set_cons_zero, List.set_append_right _ _ (by omega), hl, show j * 2 + 1 - j * 2 = 1 by omega, List.set_cons_succ, List.set_cons_zero, List.append_assoc]
  rfl

def CopyPost (w : World) (l : List (Int × Int)) (e : Ending) (w' : World) : Prop :=
  ∃ v : Value, e = .returned v ∧ Below w.heap.size w w' ∧ OwnRg w' w.heap.size v l ∧ v ≠ .slice none 0 0

set_option maxRecDepth 100000 in
set_option maxHeartbeats 1000000 in
theorem tors_any (v : Value) (l : List (Int × Int)) (w : World) (h : Rngs w v l) (hx : l.length ≤ 1048576) :
    Calls Try.prog 22 #[v] w (CopyPost w l) := by
  obtain ⟨i0, hi, hz0, hz1, hz2⟩ := info_parts try_infoRange
  have HI := Lib.hid hi
  obtain ⟨a, c, rfl, h⟩ := h
  have HC := Lib.hid h
  clear hi h
  go_enter Try.func22, Try.ntmps22
  go_wp2_with (at_make; refine wpList_make_full _ rfl _ _ 44 rfl w.heap.size 69 i0 (.agg #[.int .i64 0, .int .i64 0]) 2 Try.underlying44 HI.out hz0 hz1 .i64 .i64 _ _ l.length rfl rfl rfl rfl (by rw [hz2]; omega) (by unfold maxLen; omega) (Nat.le_refl _) ?_)
  intro w1 hown hgrow
  have hb1 : Below w.heap.size w w1 := (Below.refl _ _).grown hgrow (Nat.le_refl _) (fun k hk => by cases hk)
  have B1 := Lib.hid hb1
  have hinit : (madeCells (Value.agg #[.int .i64 0, .int .i64 0]).cells (l.length * 2)).toList = rcells (cpr 0 l) := by
    have hr : ∀ n : Nat, rcells (List.replicate n ((0, 0) : Int × Int)) = List.replicate (n * 2) (.int .i64 0) := by
      intro n
      induction n with
      | zero => rfl
      | succ n ih => rw [List.replicate_succ, show (n + 1) * 2 = n * 2 + 1 + 1 by omega, List.replicate_succ, List.replicate_succ, ← ih]; simp [rcells]
    have hc : cpr 0 l = List.replicate l.length (0, 0) := by simp [cpr]
    rw [hc, hr]
    apply List.ext_getElem?
    intro j
    by_cases hj : j < l.length * 2
    · have h2 : j % 2 = 0 ∨ j % 2 = 1 := by omega
      rcases h2 with h2 | h2 <;> simp [madeCells, hj, Value.cells, h2]
    · simp [madeCells, hj]
  have hown2 : OwnRg w1 w.heap.size (.slice (some ⟨w.heap.size, 0, none⟩) l.length l.length) (cpr 0 l) := by
    unfold OwnRg
    rw [← hinit, cpr_len 0 l (Nat.zero_le _)]
    exact hown
  have O1 := Lib.hid hown2
  have hsz := hb1.size
  clear hown hgrow hinit hb1 hown2
  go_wp2_with fail
  go_loopw [4] (fun iv wr => ∃ j : Nat, j ≤ l.length ∧ iv = .int .i64 j ∧ Hid (Below w.heap.size w wr) ∧ Hid (OwnRg wr w.heap.size (.slice (some ⟨w.heap.size, 0, none⟩) l.length l.length) (cpr j l))) (fun iv _ => l.length - (intOf iv).toNat)
  case atStart => exact ⟨0, Nat.zero_le _, rfl, B1.out, O1.out⟩
  case round =>
    obtain ⟨j, hj, rfl, HB, HO⟩ := hrel
    by_cases hlt : j < l.length
    · have hlt' : (j : Int) < (l.length : Int) := by omega
      obtain ⟨g, o, rfl, hc⟩ := HC.out (by rintro rfl; simp at hlt)
      obtain ⟨e1, e2⟩ := hc j hlt
      have e1 := (HB.out.cell (World.block_lt_of_cell? w _ e1)).trans e1
      have e2 := (HB.out.cell (World.block_lt_of_cell? w _ e2)).trans e2
      have HST := Lib.hid (cpr_step j l hlt)
      clear hc
      generalize (l.getD j (0, 0)).1 = x at e1 HST
      generalize (l.getD j (0, 0)).2 = y at e2 HST
      go_wp2_with fail
      refine (torange_any x y wr).mono ?_
      rintro e w3 ⟨rfl, hb3⟩
      have B3 := Lib.hid (HB.out.trans (hb3.mono HB.out.size))
      have ho3 := own_below HO.out hb3
      rw [cpr_len j l hj] at ho3
      have hf0 := ho3.frozenAt (j * 2)
      have hf1 := ho3.frozenAt (j * 2 + 1)
      have hc0 := ho3.cellAt (j * 2) (by omega)
      have hc1 := ho3.cellAt (j * 2 + 1) (by omega)
      obtain ⟨r1, r2⟩ := rcells_at (cpr j l) j (by rw [cpr_len j l hj]; exact hlt)
      rw [r1] at hc0
      rw [r2] at hc1
      generalize ((cpr j l).getD j (0, 0)).1 = u1 at hc0
      generalize ((cpr j l).getD j (0, 0)).2 = u2 at hc1
      have st := (ho3.stored (j * 2) (.int .i64 x)).1
      have st2 := (st.stored (j * 2 + 1) (.int .i64 y)).1
      rw [HST.out] at st2
      have ST := Lib.hid st2
      have SB := Lib.hid ((B3.out.setCell (p := ⟨w.heap.size, j * 2, none⟩) (Nat.le_refl _) (.int .i64 x)).setCell (p := ⟨w.heap.size, j * 2 + 1, none⟩) (Nat.le_refl _) (.int .i64 y))
      clear st st2 ho3 hb3 r1 r2
      go_wp2_with fail
      go_roundw
      case rel => exact ⟨j + 1, by omega, by go_num, SB.out, by show OwnRg _ _ _ _; unfold OwnRg; rw [cpr_len (j + 1) l (by omega)]; exact ST.out⟩
      case measure => simp [intOf]; omega
    · have he : j = l.length := by omega
      have HO2 := Lib.hid (show OwnRg wr w.heap.size (.slice (some ⟨w.heap.size, 0, none⟩) l.length l.length) l by have := HO.out; rw [he, cpr_all] at this; exact this)
      clear he
      go_wp2_with fail
      go_ret
      exact ⟨_, rfl, HB.out, HO2.out, by simp⟩

end Go.Proofs.Ytccolpaenmebeaa
