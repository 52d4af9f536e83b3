/- toSentPacket, toSentPacketS: a copy in new memory. -/
import Derived.Test.YtccolpaenmebeaaPk
import Derived.IntWalk
import Derived.Deep.DeepCutAuto
namespace Go.Proofs.Ytccolpaenmebeaa
open Go.RowKit
set_option linter.unusedVariables false
set_option linter.unusedSimpArgs false

theorem results_cell_1r {fn : Func} {p : Tmp} {ty : TypeId} (h : fn.results = #[.cell p ty]) (tmps : Array Value) (P : Program) (w : World) :
    (results fn tmps).run P w = ((asAddr (tmps.getD p undef)).run P w).andThen fun a w₁ => (loadVar ty a).run P w₁ := by
  simp only [results, h]
  simp [Sem.run_bind, Result.andThen]

set_option maxRecDepth 100000 in
set_option maxHeartbeats 1000000 in
theorem topk_any (x y z : Int) (w : World) : Calls Try.prog 60 #[.agg #[.int .i64 x, .int .i64 y, .int .i64 z]] w fun e w' => e = .returned (.agg #[.int .i64 x, .int .i64 y, .int .i64 z]) ∧ Below w.heap.size w w' := by
  go_enter Try.func60, Try.ntmps60
  go_wp2_with fail
  refine bodyPost_ret (v := .agg #[.int .i64 x, .int .i64 y, .int .i64 z]) ?hr rfl ?_
  case hr => rw [results_cell_1r rfl]; go_simp
  exact ⟨rfl, (((Below.refl _ _).alloc (Nat.le_refl _) _).alloc (by simp) _).alloc (by simp; omega) _⟩

theorem ptake_gt (l : List Pk) (k : Nat) (h : k < l.length) : l.take (k + 1) = l.take k ++ [l.getD k pkD] := by
  rw [List.getD_eq_getElem?_getD, List.getElem?_eq_getElem h, List.take_add_one, List.getElem?_eq_getElem h]; rfl
def cpt (j : Nat) (l : List Pk) : List Pk := l.take j ++ List.replicate (l.length - j) pkD
theorem cpt_len (j : Nat) (l : List Pk) (h : j ≤ l.length) : (cpt j l).length = l.length := by simp [cpt]; omega
theorem cpt_all (l : List Pk) : cpt l.length l = l := by simp [cpt]
theorem cpt_step (j : Nat) (l : List Pk) (h : j < l.length) : (((pcells (cpt j l)).set (j * 3) (.int .i64 (l.getD j pkD).1)).set (j * 3 + 1) (.int .i64 (l.getD j pkD).2.1)).set (j * 3 + 2) (.int .i64 (l.getD j pkD).2.2) = pcells (cpt (j + 1) l) := by
  have d : List.replicate (l.length - j) pkD = pkD :: List.replicate (l.length - (j + 1)) pkD := by
    have : l.length - j = (l.length - (j + 1)) + 1 := by omega
    rw [this, List.replicate_succ]
  have hl : (pcells (l.take j)).length = j * 3 := by rw [pcells_len]; simp; omega
  unfold cpt
  rw [d, ptake_gt l j h, pcells_app, pcells_app, pcells_app]
  have e1 : pcells (pkD :: List.replicate (l.length - (j + 1)) pkD) = .int .i64 0 :: .int .i64 0 :: .int .i64 0 :: pcells (List.replicate (l.length - (j + 1)) pkD) := by simp [pcells, pcell, pkD]
  have e2 : pcells [l.getD j pkD] = [.int .i64 (l.getD j pkD).1, .int .i64 (l.getD j pkD).2.1, .int .i64 (l.getD j pkD).2.2] := by simp [pcells, pcell]
  rw [e1, e2, List.set_append_right _ _ (by omega), hl, Nat.sub_self, List.set_cons_zero, List.set_append_right _ _ (by omega), hl, show j * 3 + 1 - j * 3 = 1 by omega, List.set_cons_succ, List.set_cons_zero, List.set_append_right _ _ (by omega), hl, show j * 3 + 2 - j * 3 = 2 by omega, List.set_cons_succ, List.set_cons_succ, List.set_cons_zero, List.append_assoc]
  rfl

def CopyP (w : World) (l : List Pk) (e : Ending) (w' : World) : Prop :=
  ∃ v : Value, e = .returned v ∧ Below w.heap.size w w' ∧ OwnPk w' w.heap.size v l ∧ v ≠ .slice none 0 0

set_option maxRecDepth 100000 in
set_option maxHeartbeats 1000000 in
theorem topks_any (v : Value) (l : List Pk) (w : World) (h : Pks w v l) (hx : l.length ≤ 1048576) :
    Calls Try.prog 38 #[v] w (CopyP w l) := by
  obtain ⟨i0, hi, hz0, hz1, hz2⟩ := info_parts try_infoPk
  have HI := Lib.hid hi
  obtain ⟨a, c, rfl, _, h⟩ := h
  have HC := Lib.hid h
  clear hi h
  go_enter Try.func38, Try.ntmps38
  go_wp2_with (at_make; refine wpList_make_full _ rfl _ _ 22 rfl w.heap.size 57 i0 (.agg #[.int .i64 0, .int .i64 0, .int .i64 0]) 3 Try.underlying22 HI.out hz0 hz1 .i64 .i64 _ _ l.length rfl rfl rfl rfl (by rw [hz2]; omega) (by unfold maxLen; omega) (Nat.le_refl _) ?_)
  intro w1 hown hgrow
  have hb1 : Below w.heap.size w w1 := (Below.refl _ _).grown hgrow (Nat.le_refl _) (fun k hk => by cases hk)
  have B1 := Lib.hid hb1
  have hinit : (madeCells (Value.agg #[.int .i64 0, .int .i64 0, .int .i64 0]).cells (l.length * 3)).toList = pcells (cpt 0 l) := by
    have hr : ∀ n : Nat, pcells (List.replicate n pkD) = List.replicate (n * 3) (.int .i64 0) := by
      intro n
      induction n with
      | zero => rfl
      | succ n ih => rw [List.replicate_succ, show (n + 1) * 3 = n * 3 + 1 + 1 + 1 by omega, List.replicate_succ, List.replicate_succ, List.replicate_succ, ← ih]; simp [pcells, pcell, pkD]
    have hc : cpt 0 l = List.replicate l.length pkD := by simp [cpt]
    rw [hc, hr]
    apply List.ext_getElem?
    intro j
    by_cases hj : j < l.length * 3
    · have h2 : j % 3 = 0 ∨ j % 3 = 1 ∨ j % 3 = 2 := by omega
      rcases h2 with h2 | h2 | h2 <;> simp [madeCells, hj, Value.cells, h2]
    · simp [madeCells, hj]
  have hown2 : OwnPk w1 w.heap.size (.slice (some ⟨w.heap.size, 0, none⟩) l.length l.length) (cpt 0 l) := by
    unfold OwnPk
    rw [← hinit, cpt_len 0 l (Nat.zero_le _)]
    exact hown
  have O1 := Lib.hid hown2
  have hsz := hb1.size
  clear hown hgrow hinit hb1 hown2
  go_wp2_with fail
  go_loopw [4] (fun iv wr => ∃ j : Nat, j ≤ l.length ∧ iv = .int .i64 j ∧ Hid (Below w.heap.size w wr) ∧ Hid (OwnPk wr w.heap.size (.slice (some ⟨w.heap.size, 0, none⟩) l.length l.length) (cpt j l))) (fun iv _ => l.length - (intOf iv).toNat)
  case atStart => exact ⟨0, Nat.zero_le _, rfl, B1.out, O1.out⟩
  case round =>
    obtain ⟨j, hj, rfl, HB, HO⟩ := hrel
    by_cases hlt : j < l.length
    · have hlt' : (j : Int) < (l.length : Int) := by omega
      obtain ⟨g, o, rfl, hc⟩ := HC.out (by rintro rfl; simp at hlt)
      obtain ⟨e1, e2, e3⟩ := hc j hlt
      have e1 := (HB.out.cell (World.block_lt_of_cell? w _ e1)).trans e1
      have e2 := (HB.out.cell (World.block_lt_of_cell? w _ e2)).trans e2
      have e3 := (HB.out.cell (World.block_lt_of_cell? w _ e3)).trans e3
      have HST := Lib.hid (cpt_step j l hlt)
      clear hc
      generalize (l.getD j pkD).1 = x at e1 HST
      generalize (l.getD j pkD).2.1 = y at e2 HST
      generalize (l.getD j pkD).2.2 = z at e3 HST
      go_wp2_with fail
      refine (topk_any x y z wr).mono ?_
      rintro e w3 ⟨rfl, hb3⟩
      have B3 := Lib.hid (HB.out.trans (hb3.mono HB.out.size))
      have ho3 := own_below HO.out hb3
      rw [cpt_len j l hj] at ho3
      have hf0 := ho3.frozenAt (j * 3)
      have hf1 := ho3.frozenAt (j * 3 + 1)
      have hf2 := ho3.frozenAt (j * 3 + 2)
      have hc0 := ho3.cellAt (j * 3) (by omega)
      have hc1 := ho3.cellAt (j * 3 + 1) (by omega)
      have hc2 := ho3.cellAt (j * 3 + 2) (by omega)
      have hjl : j < (cpt j l).length := by rw [cpt_len j l hj]; exact hlt
      have r1 := pcells_at (cpt j l) j 0 hjl (by omega)
      have r2 := pcells_at (cpt j l) j 1 hjl (by omega)
      have r3 := pcells_at (cpt j l) j 2 hjl (by omega)
      simp only [Nat.add_zero] at r1
      rw [r1] at hc0
      rw [r2] at hc1
      rw [r3] at hc2
      simp only [pcell, List.getElem?_cons_zero, List.getElem?_cons_succ] at hc0 hc1 hc2
      generalize ((cpt j l)[j]).1 = u1 at hc0
      generalize ((cpt j l)[j]).2.1 = u2 at hc1
      generalize ((cpt j l)[j]).2.2 = u3 at hc2
      have st := (ho3.stored (j * 3) (.int .i64 x)).1
      have st2 := (st.stored (j * 3 + 1) (.int .i64 y)).1
      have st3 := (st2.stored (j * 3 + 2) (.int .i64 z)).1
      rw [HST.out] at st3
      have ST := Lib.hid st3
      have SB := Lib.hid (((B3.out.setCell (p := ⟨w.heap.size, j * 3, none⟩) (Nat.le_refl _) (.int .i64 x)).setCell (p := ⟨w.heap.size, j * 3 + 1, none⟩) (Nat.le_refl _) (.int .i64 y)).setCell (p := ⟨w.heap.size, j * 3 + 2, none⟩) (Nat.le_refl _) (.int .i64 z))
      clear st st2 st3 ho3 hb3 r1 r2 r3 hjl
      go_wp2_with fail
      go_roundw
      case rel => exact ⟨j + 1, by omega, by go_num, SB.out, by show OwnPk _ _ _ _; unfold OwnPk; rw [cpt_len (j + 1) l (by omega)]; exact ST.out⟩
      case measure => simp [intOf]; omega
    · have he : j = l.length := by omega
      have HO2 := Lib.hid (show OwnPk wr w.heap.size (.slice (some ⟨w.heap.size, 0, none⟩) l.length l.length) l by have := HO.out; rw [he, cpt_all] at this; exact this)
      clear he
      go_wp2_with fail
      go_ret
      exact ⟨_, rfl, HB.out, HO2.out, by simp⟩

end Go.Proofs.Ytccolpaenmebeaa
