/- toWindow, toWindowS: a copy in new memory. -/
import Derived.Test.YtfggldholaibeaaWdRow
import Derived.IntWalk
import Derived.Deep.DeepCutAuto
namespace Go.Proofs.Ytfggldholaibeaa
open Go.RowKit
set_option linter.unusedVariables false
set_option linter.unusedSimpArgs false

theorem results_cell_1r {fn : Func} {p : Tmp} {ty : TypeId} (h : fn.results = #[.cell p ty]) (tmps : Array Value) (P : Program) (w : World) :
    (results fn tmps).run P w = ((asAddr (tmps.getD p undef)).run P w).andThen fun a w₁ => (loadVar ty a).run P w₁ := by
  simp only [results, h]
  simp [Sem.run_bind, Result.andThen]

set_option maxRecDepth 100000 in
set_option maxHeartbeats 1000000 in
theorem tow_any (x y z t : Int) (w : World) : Calls Try.prog 24 #[.agg #[.int .i64 x, .int .i64 y, .int .i64 z, .int .i64 t]] w fun e w' => e = .returned (.agg #[.int .i64 x, .int .i64 y, .int .i64 z, .int .i64 t]) ∧ Below w.heap.size w w' := by
  go_enter Try.func24, Try.ntmps24
  go_wp2_with fail
  refine bodyPost_ret (v := .agg #[.int .i64 x, .int .i64 y, .int .i64 z, .int .i64 t]) ?hr rfl ?_
  case hr => rw [results_cell_1r rfl]; go_simp
  exact ⟨rfl, (((Below.refl _ _).alloc (Nat.le_refl _) _).alloc (by simp) _).alloc (by simp; omega) _⟩

theorem wtake_gt (l : List Wd) (k : Nat) (h : k < l.length) : l.take (k + 1) = l.take k ++ [l.getD k wdD] := by
  rw [List.getD_eq_getElem?_getD, List.getElem?_eq_getElem h, List.take_add_one, List.getElem?_eq_getElem h]; rfl
def cwt (j : Nat) (l : List Wd) : List Wd := l.take j ++ List.replicate (l.length - j) wdD
theorem cwt_len (j : Nat) (l : List Wd) (h : j ≤ l.length) : (cwt j l).length = l.length := by simp [cwt]; omega
theorem cwt_all (l : List Wd) : cwt l.length l = l := by simp [cwt]
theorem cwt_step (j : Nat) (l : List Wd) (h : j < l.length) : ((((wcells (cwt j l)).set (j * 4) (.int .i64 (l.getD j wdD).1)).set (j * 4 + 1) (.int .i64 (l.getD j wdD).2.1)).set (j * 4 + 2) (.int .i64 (l.getD j wdD).2.2.1)).set (j * 4 + 3) (.int .i64 (l.getD j wdD).2.2.2) = wcells (cwt (j + 1) l) := by
  have d : List.replicate (l.length - j) wdD = wdD :: List.replicate (l.length - (j + 1)) wdD := by
    have : l.length - j = (l.length - (j + 1)) + 1 := by omega
    rw [this, List.replicate_succ]
  have hl : (wcells (l.take j)).length = j * 4 := by rw [wcells_len]; simp; omega
  unfold cwt
  rw [d, wtake_gt l j h, wcells_app, wcells_app, wcells_app]
  have e1 : wcells (wdD :: List.replicate (l.length - (j + 1)) wdD) = .int .i64 0 :: .int .i64 0 :: .int .i64 0 :: .int .i64 0 :: wcells (List.replicate (l.length - (j + 1)) wdD) := by simp [wcells, wcell, wdD]
  have e2 : wcells [l.getD j wdD] = [.int .i64 (l.getD j wdD).1, .int .i64 (l.getD j wdD).2.1, .int .i64 (l.getD j wdD).2.2.1, .int .i64 (l.getD j wdD).2.2.2] := by simp [wcells, wcell]
  rw [e1, e2, List.set_append_right _ _ (by omega), hl, Nat.sub_self, List.set_cons_zero, List.set_append_right _ _ (by omega), hl, show j * 4 + 1 - j * 4 = 1 by omega, List.set_cons_succ, List.set_cons_zero, List.set_append_right _ _ (by omega), hl, show j * 4 + 2 - j * 4 = 2 by omega, List.set_cons_succ, List.set_cons_succ, List.set_cons_zero, List.set_append_right _ _ (by omega), hl, show j * 4 + 3 - j * 4 = 3 by omega, List.set_cons_succ, List.set_cons_succ, List.set_cons_succ, List.set_cons_zero, List.append_assoc]
  rfl

def CopyW (w : World) (l : List Wd) (e : Ending) (w' : World) : Prop :=
  ∃ v : Value, e = .returned v ∧ Below w.heap.size w w' ∧ OwnW w' w.heap.size v l ∧ v ≠ .slice none 0 0

set_option maxRecDepth 100000 in
set_option maxHeartbeats 1000000 in
theorem tows_any (v : Value) (l : List Wd) (w : World) (h : Wds w v l) (hx : l.length ≤ 1048576) :
    Calls Try.prog 10 #[v] w (CopyW w l) := by
  obtain ⟨i0, hi, hz0, hz1, hz2⟩ := info_parts try_infoW
  have HI := Lib.hid hi
  obtain ⟨a, c, rfl, _, h⟩ := h
  have HC := Lib.hid h
  clear hi h
  go_enter Try.func10, Try.ntmps10
  go_wp2_with (at_make; refine wpList_make_full _ rfl _ _ 25 rfl w.heap.size 35 i0 (.agg #[.int .i64 0, .int .i64 0, .int .i64 0, .int .i64 0]) 4 Try.underlying25 HI.out hz0 hz1 .i64 .i64 _ _ l.length rfl rfl rfl rfl (by rw [hz2]; omega) (by unfold maxLen; omega) (Nat.le_refl _) ?_)
  intro w1 hown hgrow
  have hb1 : Below w.heap.size w w1 := (Below.refl _ _).grown hgrow (Nat.le_refl _) (fun k hk => by cases hk)
  have B1 := Lib.hid hb1
  have hinit : (madeCells (Value.agg #[.int .i64 0, .int .i64 0, .int .i64 0, .int .i64 0]).cells (l.length * 4)).toList = wcells (cwt 0 l) := by
    have hr : ∀ n : Nat, wcells (List.replicate n wdD) = List.replicate (n * 4) (.int .i64 0) := by
      intro n
      induction n with
      | zero => rfl
      | succ n ih => rw [List.replicate_succ, show (n + 1) * 4 = n * 4 + 1 + 1 + 1 + 1 by omega, List.replicate_succ, List.replicate_succ, List.replicate_succ, List.replicate_succ, ← ih]; simp [wcells, wcell, wdD]
    have hc : cwt 0 l = List.replicate l.length wdD := by simp [cwt]
    rw [hc, hr]
    apply List.ext_getElem?
    intro j
    by_cases hj : j < l.length * 4
    · have h2 : j % 4 = 0 ∨ j % 4 = 1 ∨ j % 4 = 2 ∨ j % 4 = 3 := by omega
      rcases h2 with h2 | h2 | h2 | h2 <;> simp [madeCells, hj, Value.cells, h2]
    · simp [madeCells, hj]
  have hown2 : OwnW w1 w.heap.size (.slice (some ⟨w.heap.size, 0, none⟩) l.length l.length) (cwt 0 l) := by
    unfold OwnW
    rw [← hinit, cwt_len 0 l (Nat.zero_le _)]
    exact hown
  have O1 := Lib.hid hown2
  have hsz := hb1.size
  clear hown hgrow hinit hb1 hown2
  go_wp2_with fail
  go_loopw [4] (fun iv wr => ∃ j : Nat, j ≤ l.length ∧ iv = .int .i64 j ∧ Hid (Below w.heap.size w wr) ∧ Hid (OwnW wr w.heap.size (.slice (some ⟨w.heap.size, 0, none⟩) l.length l.length) (cwt j l))) (fun iv _ => l.length - (intOf iv).toNat)
  case atStart => exact ⟨0, Nat.zero_le _, rfl, B1.out, O1.out⟩
  case round =>
    obtain ⟨j, hj, rfl, HB, HO⟩ := hrel
    by_cases hlt : j < l.length
    · have hlt' : (j : Int) < (l.length : Int) := by omega
      obtain ⟨g, o, rfl, hc⟩ := HC.out (by rintro rfl; simp at hlt)
      obtain ⟨e1, e2, e3, e4⟩ := hc j hlt
      have e1 := (HB.out.cell (World.block_lt_of_cell? w _ e1)).trans e1
      have e2 := (HB.out.cell (World.block_lt_of_cell? w _ e2)).trans e2
      have e3 := (HB.out.cell (World.block_lt_of_cell? w _ e3)).trans e3
      have e4 := (HB.out.cell (World.block_lt_of_cell? w _ e4)).trans e4
      have HST := Lib.hid (cwt_step j l hlt)
      clear hc
      generalize (l.getD j wdD).1 = x at e1 HST
      generalize (l.getD j wdD).2.1 = y at e2 HST
      generalize (l.getD j wdD).2.2.1 = z at e3 HST
      generalize (l.getD j wdD).2.2.2 = t at e4 HST
      go_wp2_with fail
      refine (tow_any x y z t wr).mono ?_
      rintro e w3 ⟨rfl, hb3⟩
      have B3 := Lib.hid (HB.out.trans (hb3.mono HB.out.size))
      have ho3 := own_below HO.out hb3
      rw [cwt_len j l hj] at ho3
      have hf0 := ho3.frozenAt (j * 4)
      have hf1 := ho3.frozenAt (j * 4 + 1)
      have hf2 := ho3.frozenAt (j * 4 + 2)
      have hf3 := ho3.frozenAt (j * 4 + 3)
      have hc0 := ho3.cellAt (j * 4) (by omega)
      have hc1 := ho3.cellAt (j * 4 + 1) (by omega)
      have hc2 := ho3.cellAt (j * 4 + 2) (by omega)
      have hc3 := ho3.cellAt (j * 4 + 3) (by omega)
      have hjl : j < (cwt j l).length := by rw [cwt_len j l hj]; exact hlt
      have r1 := wcells_at (cwt j l) j 0 hjl (by omega)
      have r2 := wcells_at (cwt j l) j 1 hjl (by omega)
      have r3 := wcells_at (cwt j l) j 2 hjl (by omega)
      have r4 := wcells_at (cwt j l) j 3 hjl (by omega)
      simp only [Nat.add_zero] at r1
      rw [r1] at hc0
      rw [r2] at hc1
      rw [r3] at hc2
      rw [r4] at hc3
      simp only [wcell, List.getElem?_cons_zero, List.getElem?_cons_succ] at hc0 hc1 hc2 hc3
      generalize ((cwt j l)[j]).1 = u1 at hc0
      generalize ((cwt j l)[j]).2.1 = u2 at hc1
      generalize ((cwt j l)[j]).2.2.1 = u3 at hc2
      generalize ((cwt j l)[j]).2.2.2 = u4 at hc3
      have st := (ho3.stored (j * 4) (.int .i64 x)).1
      have st2 := (st.stored (j * 4 + 1) (.int .i64 y)).1
      have st3 := (st2.stored (j * 4 + 2) (.int .i64 z)).1
      have st4 := (st3.stored (j * 4 + 3) (.int .i64 t)).1
      rw [HST.out] at st4
      have ST := Lib.hid st4
      have SB := Lib.hid ((((B3.out.setCell (p := ⟨w.heap.size, j * 4, none⟩) (Nat.le_refl _) (.int .i64 x)).setCell (p := ⟨w.heap.size, j * 4 + 1, none⟩) (Nat.le_refl _) (.int .i64 y)).setCell (p := ⟨w.heap.size, j * 4 + 2, none⟩) (Nat.le_refl _) (.int .i64 z)).setCell (p := ⟨w.heap.size, j * 4 + 3, none⟩) (Nat.le_refl _) (.int .i64 t))
      clear st st2 st3 st4 ho3 hb3 r1 r2 r3 r4 hjl
      go_wp2_with fail
      go_roundw
      case rel => exact ⟨j + 1, by omega, by go_num, SB.out, by show OwnW _ _ _ _; unfold OwnW; rw [cwt_len (j + 1) l (by omega)]; exact ST.out⟩
      case measure => simp [intOf]; omega
    · have he : j = l.length := by omega
      have HO2 := Lib.hid (show OwnW wr w.heap.size (.slice (some ⟨w.heap.size, 0, none⟩) l.length l.length) l by have := HO.out; rw [he, cwt_all] at this; exact this)
      clear he
      go_wp2_with fail
      go_ret
      exact ⟨_, rfl, HB.out, HO2.out, by simp⟩

end Go.Proofs.Ytfggldholaibeaa
