/- toPiece, toPieceS, toRecv. -/
import Derived.Test.YthdhjjbgegcncaaToRc
import Derived.StillTailTactics
namespace Go.Proofs.Ythdhjjbgegcncaa
open Go.RowKit
set_option linter.unusedVariables false
set_option linter.unusedSimpArgs false

set_option maxRecDepth 100000 in
set_option maxHeartbeats 1000000 in
theorem topc_any (x : Int) (d : ByteArray) (w : World) : Calls Try.prog 52 #[.agg #[.int .i64 x, .string d]] w fun e w' => e = .returned (.agg #[.int .i64 x, .string d]) ∧ Below w.heap.size w w' := by
  go_enter Try.func52, Try.ntmps52
  go_wp2_with fail
  refine bodyPost_ret (v := .agg #[.int .i64 x, .string d]) ?hr rfl ?_
  case hr => rw [results_cell_one rfl]; go_simp
  exact ⟨rfl, (((Below.refl _ _).alloc (Nat.le_refl _) _).alloc (by simp) _).alloc (by simp; omega) _⟩
def cpc (j : Nat) (l : List Pc) : List Pc := l.take j ++ List.replicate (l.length - j) pc0
theorem cpc_len (j : Nat) (l : List Pc) (h : j ≤ l.length) : (cpc j l).length = l.length := by simp [cpc]; omega
theorem cpc_all (l : List Pc) : cpc l.length l = l := by simp [cpc]
theorem pcells_app (l m : List Pc) : pcells (l ++ m) = pcells l ++ pcells m := by simp [pcells]
theorem cpc_step (j : Nat) (l : List Pc) (h : j < l.length) : ((pcells (cpc j l)).set (j * 2) (.int .i64 (l.getD j pc0).1)).set (j * 2 + 1) (.string (l.getD j pc0).2) = pcells (cpc (j + 1) l) := by
  have d : List.replicate (l.length - j) pc0 = pc0 :: List.replicate (l.length - (j + 1)) pc0 := by
    have : l.length - j = (l.length - (j + 1)) + 1 := by omega
    rw [this, List.replicate_succ]
  have hl : (pcells (l.take j)).length = j * 2 := by rw [pcells_len]; simp; omega
  unfold cpc
  rw [d, (take_gt l j h).1, pcells_app, pcells_app, pcells_app]
  have e1 : pcells (pc0 :: List.replicate (l.length - (j + 1)) pc0) = .int .i64 0 :: .string ⟨#[]⟩ :: pcells (List.replicate (l.length - (j + 1)) pc0) := by simp [pcells, pc0]
  have e2 : pcells [l.getD j pc0] = [.int .i64 (l.getD j pc0).1, .string (l.getD j pc0).2] := by simp [pcells]
  rw [e1, e2, List.set_append_right _ _ (by omega), hl, Nat.sub_self, List.set_cons_zero, List.set_append_right _ _ (by omega), hl, show j * 2 + 1 - j * 2 = 1 by omega, List.set_cons_succ, List.set_cons_zero, List.append_assoc]
  rfl
def CopyC (w : World) (l : List Pc) (e : Ending) (w' : World) : Prop :=
  ∃ v : Value, e = .returned v ∧ Below w.heap.size w w' ∧ OwnPc w' w.heap.size v l ∧ v ≠ .slice none 0 0
set_option maxRecDepth 100000 in
set_option maxHeartbeats 1000000 in
theorem topcs_any (v : Value) (l : List Pc) (w : World) (h : Pcn w v l) (hx : l.length ≤ 1048576) :
    Calls Try.prog 36 #[v] w (CopyC w l) := by
  obtain ⟨i0, hi, hz0, hz1, hz2⟩ := info_parts try_infoPiece
  have HI := Lib.hid hi
  have H := Lib.hid h
  obtain ⟨a, c, rfl, _⟩ := h
  clear hi
  go_enter Try.func36, Try.ntmps36
  go_wp2_with (at_make; refine wpList_make_full _ rfl _ _ 22 rfl w.heap.size 51 i0 (.agg #[.int .i64 0, .string ⟨#[]⟩]) 2 Try.underlying22 HI.out hz0 hz1 .i64 .i64 _ _ l.length rfl rfl rfl rfl (by rw [hz2]; omega) (by unfold maxLen; omega) (Nat.le_refl _) ?_)
  intro w1 hown hgrow
  have hb1 : Below w.heap.size w w1 := (Below.refl _ _).grown hgrow (Nat.le_refl _) (fun k hk => by cases hk)
  have B1 := Lib.hid hb1
  have hinit : (madeCells (Value.agg #[.int .i64 0, .string ⟨#[]⟩]).cells (l.length * 2)).toList = pcells (cpc 0 l) := by
    have hr : ∀ n : Nat, pcells (List.replicate n pc0) = (List.range (n * 2)).map fun j => if j % 2 = 0 then Value.int .i64 0 else .string ⟨#[]⟩ := by
      intro n
      induction n with
      | zero => rfl
      | succ n ih =>
        rw [show List.replicate (n + 1) pc0 = List.replicate n pc0 ++ [pc0] by rw [List.replicate_succ'], pcells_app, ih, show (n + 1) * 2 = n * 2 + 1 + 1 by omega, List.range_succ, List.range_succ]
        simp [pcells, pc0]
    have hc : cpc 0 l = List.replicate l.length pc0 := by simp [cpc]
    rw [hc, hr]
    apply List.ext_getElem?
    intro j
    by_cases hj : j < l.length * 2
    · have h2 : j % 2 = 0 ∨ j % 2 = 1 := by omega
      rcases h2 with h2 | h2 <;> simp [madeCells, hj, Value.cells, h2]
    · simp [madeCells, hj]
  have hown2 : OwnPc w1 w.heap.size (.slice (some ⟨w.heap.size, 0, none⟩) l.length l.length) (cpc 0 l) := by
    unfold OwnPc
    rw [← hinit, cpc_len 0 l (Nat.zero_le _)]
    exact hown
  have O1 := Lib.hid hown2
  have hsz := hb1.size
  clear hown hgrow hinit hb1 hown2
  go_wp2_with fail
  go_loopw [4] (fun iv wr => ∃ j : Nat, j ≤ l.length ∧ iv = .int .i64 j ∧ Hid (Below w.heap.size w wr) ∧ Hid (OwnPc wr w.heap.size (.slice (some ⟨w.heap.size, 0, none⟩) l.length l.length) (cpc j l))) (fun iv _ => l.length - (intOf iv).toNat)
  case atStart => exact ⟨0, Nat.zero_le _, rfl, B1.out, O1.out⟩
  case round =>
    obtain ⟨j, hj, rfl, HB, HO⟩ := hrel
    by_cases hlt : j < l.length
    · have hlt' : (j : Int) < (l.length : Int) := by omega
      obtain ⟨_, _, e0, hc0⟩ := H.out
      injection e0 with e1 e2 e3
      obtain ⟨g, o, e4, hc⟩ := hc0 (by rintro rfl; simp at hlt)
      clear hc0
      subst e1 e3 e4
      have p0 := (HB.out.cell (World.block_lt_of_cell? w _ (hc j hlt).1)).trans (hc j hlt).1
      have p1 := (HB.out.cell (World.block_lt_of_cell? w _ (hc j hlt).2)).trans (hc j hlt).2
      have HST := Lib.hid (cpc_step j l hlt)
      clear hc e2
      generalize (l.getD j pc0).1 = x at p0 HST
      generalize (l.getD j pc0).2 = d at p1 HST
      go_wp2_with fail
      refine (topc_any x d wr).mono ?_
      rintro e w3 ⟨rfl, hb3⟩
      have B3 := Lib.hid (HB.out.trans (hb3.mono HB.out.size))
      have ho3 := own_below HO.out hb3
      rw [cpc_len j l hj] at ho3
      have hf0 := ho3.frozenAt (j * 2)
      have hf1 := ho3.frozenAt (j * 2 + 1)
      have hc0 := ho3.cellAt (j * 2) (by omega)
      have hc1 := ho3.cellAt (j * 2 + 1) (by omega)
      obtain ⟨r1, r2⟩ := pcells_at (cpc j l) j (by rw [cpc_len j l hj]; exact hlt)
      rw [r1] at hc0
      rw [r2] at hc1
      generalize ((cpc j l).getD j pc0).1 = u1 at hc0
      generalize ((cpc j l).getD j pc0).2 = u2 at hc1
      have st := (ho3.stored (j * 2) (.int .i64 x)).1
      have st2 := (st.stored (j * 2 + 1) (.string d)).1
      rw [HST.out] at st2
      have ST := Lib.hid st2
      have SB := Lib.hid ((B3.out.setCell (p := ⟨w.heap.size, j * 2, none⟩) (Nat.le_refl _) (.int .i64 x)).setCell (p := ⟨w.heap.size, j * 2 + 1, none⟩) (Nat.le_refl _) (.string d))
      clear st st2 ho3 hb3 r1 r2
      go_wp2_with fail
      go_roundw
      case rel => exact ⟨j + 1, by omega, by go_num, SB.out, by show OwnPc _ _ _ _; unfold OwnPc; rw [cpc_len (j + 1) l (by omega)]; exact ST.out⟩
      case measure => simp [intOf]; omega
    · have he : j = l.length := by omega
      have HO2 := Lib.hid (show OwnPc wr w.heap.size (.slice (some ⟨w.heap.size, 0, none⟩) l.length l.length) l by have := HO.out; rw [he, cpc_all] at this; exact this)
      clear he
      go_wp2_with fail
      go_ret
      exact ⟨_, rfl, HB.out, HO2.out, by simp⟩

/-- Where toRecv stands: the argument's box, the result's block, the variable's. -/
structure Tq (w W : World) (rd fi li : Int) (v : Value) (x0 x1 x2 x3 : Value) : Prop where
  bel : Below w.heap.size w W
  f : Frm W w.heap.size [.int .i64 rd, v, .int .i64 fi, .int .i64 li]
  r : Frm W (w.heap.size + 1) [.int .i64 0, .slice none 0 0, .int .i64 0, .int .i64 0]
  rt : Thaw W (w.heap.size + 1)
  q : Frm W (w.heap.size + 1 + 1) [x0, x1, x2, x3]
  qt : Thaw W (w.heap.size + 1 + 1)
theorem Tq.below {w W W' : World} {rd fi li : Int} {v x0 x1 x2 x3 : Value} (h : Tq w W rd fi li v x0 x1 x2 x3) (hb : Below W.heap.size W W') : Tq w W' rd fi li v x0 x1 x2 x3 := by
  have h2 := World.block_lt_of_cell? W _ (h.q 0)
  simp only at h2
  exact ⟨h.bel.trans (hb.mono h.bel.size), h.f.below hb (by omega), h.r.below hb (by omega), h.rt.below hb (by omega), h.q.below hb h2, h.qt.below hb h2⟩
theorem Tq.hi {w W : World} {rd fi li : Int} {v x0 x1 x2 x3 : Value} (h : Tq w W rd fi li v x0 x1 x2 x3) : w.heap.size + 1 + 1 < W.heap.size := World.block_lt_of_cell? W _ (h.q 0)
theorem Tq.start (w : World) (rd fi li : Int) (v x0 : Value) : Tq w (((w.alloc (.cells #[.int .i64 rd, v, .int .i64 fi, .int .i64 li] 32)).alloc (.cells #[.int .i64 0, .slice none 0 0, .int .i64 0, .int .i64 0] 24)).alloc (.cells #[x0, .slice none 0 0, .int .i64 0, .int .i64 0] 24)) rd fi li v x0 (.slice none 0 0) (.int .i64 0) (.int .i64 0) where
  bel := (((Below.refl _ _).alloc (Nat.le_refl _) _).alloc (by simp) _).alloc (by simp; omega) _
  f := ((Frm.new w 32 [.int .i64 rd, v, .int .i64 fi, .int .i64 li]).below ((Below.refl (w.heap.size + 1) _).alloc (by simp) _) (by omega)).below ((Below.refl (w.heap.size + 1) _).alloc (by simp) _) (by omega)
  r := by
    have := (Frm.new (w.alloc (.cells #[.int .i64 rd, v, .int .i64 fi, .int .i64 li] 32)) 24 [.int .i64 0, .slice none 0 0, .int .i64 0, .int .i64 0]).below ((Below.refl (w.heap.size + 2) _).alloc (by simp) (.cells #[x0, .slice none 0 0, .int .i64 0, .int .i64 0] 24)) (by simp)
    intro i
    simpa using this i
  rt := by
    have := (Thaw.new (w.alloc (.cells #[.int .i64 rd, v, .int .i64 fi, .int .i64 li] 32)) 24 [.int .i64 0, .slice none 0 0, .int .i64 0, .int .i64 0]).below ((Below.refl (w.heap.size + 2) _).alloc (by simp) (.cells #[x0, .slice none 0 0, .int .i64 0, .int .i64 0] 24)) (by simp)
    intro i
    simpa using this i
  q := by
    have := Frm.new ((w.alloc (.cells #[.int .i64 rd, v, .int .i64 fi, .int .i64 li] 32)).alloc (.cells #[.int .i64 0, .slice none 0 0, .int .i64 0, .int .i64 0] 24)) 24 [x0, .slice none 0 0, .int .i64 0, .int .i64 0]
    intro i
    simpa using this i
  qt := by
    have := Thaw.new ((w.alloc (.cells #[.int .i64 rd, v, .int .i64 fi, .int .i64 li] 32)).alloc (.cells #[.int .i64 0, .slice none 0 0, .int .i64 0, .int .i64 0] 24)) 24 [x0, .slice none 0 0, .int .i64 0, .int .i64 0]
    intro i
    simpa using this i
set_option maxRecDepth 100000 in
set_option maxHeartbeats 2000000 in
theorem torc_any (v : Value) (l : List Pc) (rd fi li : Int) (w : World) (h : Pcn w v l) (hl : l.length ≤ 1048576) :
    Calls Try.prog 17 #[.agg #[.int .i64 rd, v, .int .i64 fi, .int .i64 li]] w fun e w' => ∃ b c, e = .returned (.agg #[.int .i64 rd, .slice (some ⟨b, 0, none⟩) l.length c, .int .i64 fi, .int .i64 li]) ∧ Below w.heap.size w w' ∧ OwnPc w' w.heap.size (.slice (some ⟨b, 0, none⟩) l.length c) l := by
  have T0 := Lib.hid (Tq.start w rd fi li v (.int .i64 rd))
  have HT := Lib.hid (topcs_any v l _ (h.below T0.out.bel) hl)
  obtain ⟨a, c, rfl, _⟩ := h
  go_enter Try.func17, Try.ntmps17
  go_wp2_with fail
  generalize ((w.alloc (.cells #[.int .i64 rd, .slice a l.length c, .int .i64 fi, .int .i64 li] 32)).alloc (.cells #[.int .i64 0, .slice none 0 0, .int .i64 0, .int .i64 0] 24)).alloc (.cells #[.int .i64 rd, .slice none 0 0, .int .i64 0, .int .i64 0] 24) = W at *
  refine HT.out.mono ?_
  rintro e w1 ⟨v1, rfl, hb1, ho1, hne⟩
  have T1 := Lib.hid (T0.out.below hb1)
  obtain ⟨b0, c0, rfl, _, hg0, _⟩ := ho1.sl hne
  have hhi := T0.out.hi
  have NE : Hid (∀ x, (Value.slice (some ⟨b0, 0, none⟩) l.length c0).ownBlock = some x → w.heap.size + 1 + 1 ≠ x ∧ w.heap.size + 1 ≠ x) := Lib.hid (fun x hx => by have e : b0 = x := Option.some.inj hx; omega)
  have f2 := T1.out.f 2
  have f3 := T1.out.f 3
  have q1 := T1.out.q 1
  have t1 := T1.out.qt 1
  have OW := Lib.hid ho1
  clear hb1 ho1 hne HT
  have B2 : Hid (Below w.heap.size w (w1.setCell ⟨w.heap.size + 1 + 1, 1, none⟩ (.slice (some ⟨b0, 0, none⟩) l.length c0))) := Lib.hid (T1.out.bel.setCell (p := ⟨w.heap.size + 1 + 1, 1, none⟩) (by show _ ≤ w.heap.size + 1 + 1; omega) _)
  have F2 : Hid (Frm (w1.setCell ⟨w.heap.size + 1 + 1, 1, none⟩ (.slice (some ⟨b0, 0, none⟩) l.length c0)) w.heap.size [.int .i64 rd, .slice a l.length c, .int .i64 fi, .int .i64 li]) := Lib.hid (T1.out.f.far (by omega) _)
  have R2 : Hid (Frm (w1.setCell ⟨w.heap.size + 1 + 1, 1, none⟩ (.slice (some ⟨b0, 0, none⟩) l.length c0)) (w.heap.size + 1) [.int .i64 0, .slice none 0 0, .int .i64 0, .int .i64 0]) := Lib.hid (T1.out.r.far (by omega) _)
  have Q2 : Hid (Frm (w1.setCell ⟨w.heap.size + 1 + 1, 1, none⟩ (.slice (some ⟨b0, 0, none⟩) l.length c0)) (w.heap.size + 1 + 1) [.int .i64 rd, .slice (some ⟨b0, 0, none⟩) l.length c0, .int .i64 0, .int .i64 0]) := Lib.hid (T1.out.q.set (i := 1) (by simp) _)
  have RT2 : Hid (Thaw (w1.setCell ⟨w.heap.size + 1 + 1, 1, none⟩ (.slice (some ⟨b0, 0, none⟩) l.length c0)) (w.heap.size + 1)) := Lib.hid (T1.out.rt.set _ _)
  have QT2 : Hid (Thaw (w1.setCell ⟨w.heap.size + 1 + 1, 1, none⟩ (.slice (some ⟨b0, 0, none⟩) l.length c0)) (w.heap.size + 1 + 1)) := Lib.hid (T1.out.qt.set _ _)
  have O2 : Hid (OwnPc (w1.setCell ⟨w.heap.size + 1 + 1, 1, none⟩ (.slice (some ⟨b0, 0, none⟩) l.length c0)) W.heap.size (.slice (some ⟨b0, 0, none⟩) l.length c0) l) := Lib.hid (own_far OW.out (fun x hx => (NE.out x hx).1))
  go_upto_region 4 with fail
  generalize w1.setCell ⟨w.heap.size + 1 + 1, 1, none⟩ (.slice (some ⟨b0, 0, none⟩) l.length c0) = W2 at *
  clear f2 f3 q1 t1
  have f2 := F2.out 2
  have q2 := Q2.out 2
  have t2 := QT2.out 2
  have B3 : Hid (Below w.heap.size w (W2.setCell ⟨w.heap.size + 1 + 1, 2, none⟩ (.int .i64 fi))) := Lib.hid (B2.out.setCell (p := ⟨w.heap.size + 1 + 1, 2, none⟩) (by show _ ≤ w.heap.size + 1 + 1; omega) _)
  have F3 : Hid (Frm (W2.setCell ⟨w.heap.size + 1 + 1, 2, none⟩ (.int .i64 fi)) w.heap.size [.int .i64 rd, .slice a l.length c, .int .i64 fi, .int .i64 li]) := Lib.hid (F2.out.far (by omega) _)
  have R3 : Hid (Frm (W2.setCell ⟨w.heap.size + 1 + 1, 2, none⟩ (.int .i64 fi)) (w.heap.size + 1) [.int .i64 0, .slice none 0 0, .int .i64 0, .int .i64 0]) := Lib.hid (R2.out.far (by omega) _)
  have Q3 : Hid (Frm (W2.setCell ⟨w.heap.size + 1 + 1, 2, none⟩ (.int .i64 fi)) (w.heap.size + 1 + 1) [.int .i64 rd, .slice (some ⟨b0, 0, none⟩) l.length c0, .int .i64 fi, .int .i64 0]) := Lib.hid (Q2.out.set (i := 2) (by simp) _)
  have RT3 : Hid (Thaw (W2.setCell ⟨w.heap.size + 1 + 1, 2, none⟩ (.int .i64 fi)) (w.heap.size + 1)) := Lib.hid (RT2.out.set _ _)
  have QT3 : Hid (Thaw (W2.setCell ⟨w.heap.size + 1 + 1, 2, none⟩ (.int .i64 fi)) (w.heap.size + 1 + 1)) := Lib.hid (QT2.out.set _ _)
  have O3 : Hid (OwnPc (W2.setCell ⟨w.heap.size + 1 + 1, 2, none⟩ (.int .i64 fi)) W.heap.size (.slice (some ⟨b0, 0, none⟩) l.length c0) l) := Lib.hid (own_far O2.out (fun x hx => (NE.out x hx).1))
  go_upto_region 5 with fail
  generalize W2.setCell ⟨w.heap.size + 1 + 1, 2, none⟩ (.int .i64 fi) = W3 at *
  clear f2 q2 t2 F2 R2 Q2 RT2 QT2 O2 B2
  have f3 := F3.out 3
  have q3 := Q3.out 3
  have t3 := QT3.out 3
  have B4 : Hid (Below w.heap.size w (W3.setCell ⟨w.heap.size + 1 + 1, 3, none⟩ (.int .i64 li))) := Lib.hid (B3.out.setCell (p := ⟨w.heap.size + 1 + 1, 3, none⟩) (by show _ ≤ w.heap.size + 1 + 1; omega) _)
  have R4 : Hid (Frm (W3.setCell ⟨w.heap.size + 1 + 1, 3, none⟩ (.int .i64 li)) (w.heap.size + 1) [.int .i64 0, .slice none 0 0, .int .i64 0, .int .i64 0]) := Lib.hid (R3.out.far (by omega) _)
  have Q4 : Hid (Frm (W3.setCell ⟨w.heap.size + 1 + 1, 3, none⟩ (.int .i64 li)) (w.heap.size + 1 + 1) [.int .i64 rd, .slice (some ⟨b0, 0, none⟩) l.length c0, .int .i64 fi, .int .i64 li]) := Lib.hid (Q3.out.set (i := 3) (by simp) _)
  have RT4 : Hid (Thaw (W3.setCell ⟨w.heap.size + 1 + 1, 3, none⟩ (.int .i64 li)) (w.heap.size + 1)) := Lib.hid (RT3.out.set _ _)
  have O4 : Hid (OwnPc (W3.setCell ⟨w.heap.size + 1 + 1, 3, none⟩ (.int .i64 li)) W.heap.size (.slice (some ⟨b0, 0, none⟩) l.length c0) l) := Lib.hid (own_far O3.out (fun x hx => (NE.out x hx).1))
  go_upto_region 6 with fail
  generalize W3.setCell ⟨w.heap.size + 1 + 1, 3, none⟩ (.int .i64 li) = W4 at *
  clear f3 q3 t3 F3 R3 Q3 RT3 QT3 O3 B3
  have q0 := Q4.out 0
  have q1 := Q4.out 1
  have q2 := Q4.out 2
  have q3 := Q4.out 3
  have r0 := R4.out 0
  have r1 := R4.out 1
  have r2 := R4.out 2
  have r3 := R4.out 3
  have t0 := RT4.out 0
  have t1 := RT4.out 1
  have t2 := RT4.out 2
  have t3 := RT4.out 3
  have RC6 := Lib.hid ((((R4.out.set (i := 0) (by simp) (.int .i64 rd)).set (i := 1) (by simp) (.slice (some ⟨b0, 0, none⟩) l.length c0)).set (i := 2) (by simp) (.int .i64 fi)).set (i := 3) (by simp) (.int .i64 li))
  have B6 := Lib.hid (Below.setCell (Below.setCell (Below.setCell (Below.setCell B4.out (p := ⟨w.heap.size + 1, 0, none⟩) (Nat.le_succ _) (.int .i64 rd)) (p := ⟨w.heap.size + 1, 1, none⟩) (Nat.le_succ _) (.slice (some ⟨b0, 0, none⟩) l.length c0)) (p := ⟨w.heap.size + 1, 2, none⟩) (Nat.le_succ _) (.int .i64 fi)) (p := ⟨w.heap.size + 1, 3, none⟩) (Nat.le_succ _) (.int .i64 li))
  have O6 := Lib.hid (own_far (i := 3) (u := .int .i64 li) (own_far (i := 2) (u := .int .i64 fi) (own_far (i := 1) (u := .slice (some ⟨b0, 0, none⟩) l.length c0) (own_far (i := 0) (u := .int .i64 rd) O4.out (fun x hx => (NE.out x hx).2)) (fun x hx => (NE.out x hx).2)) (fun x hx => (NE.out x hx).2)) (fun x hx => (NE.out x hx).2))
  go_wp2_with fail
  generalize (((W4.setCell ⟨w.heap.size + 1, 0, none⟩ (.int .i64 rd)).setCell ⟨w.heap.size + 1, 1, none⟩ (.slice (some ⟨b0, 0, none⟩) l.length c0)).setCell ⟨w.heap.size + 1, 2, none⟩ (.int .i64 fi)).setCell ⟨w.heap.size + 1, 3, none⟩ (.int .i64 li) = W6 at *
  have s0 := RC6.out 0
  have s1 := RC6.out 1
  have s2 := RC6.out 2
  have s3 := RC6.out 3
  refine bodyPost_ret (v := .agg #[.int .i64 rd, .slice (some ⟨b0, 0, none⟩) l.length c0, .int .i64 fi, .int .i64 li]) ?hr rfl ?_
  case hr => rw [results_cell_one rfl]; go_simp
  exact ⟨b0, c0, rfl, B6.out, OwnPc.lower O6.out (by omega)⟩
end Go.Proofs.Ythdhjjbgegcncaa
