/- Chapter 31, the model: RecvNew, l31End, l31Ready, l31Copy. -/
import Derived.Test.YthdhjjbgegcncaaQvB
import Derived.Test.YthdhjjbgegcncaaL6
import Derived.Test.YthdhjjbgegcncaaRcH
import Derived.Deep.RegionHeld3
namespace Go.Proofs.Ythdhjjbgegcncaa
open Go.RowKit
set_option linter.unusedVariables false
set_option linter.unusedSimpArgs false

/-- A stream's receiving side as a value. -/
def rvV (rd : Int) (v : Value) (fi li : Int) : Value := .agg #[.int .i64 rd, v, .int .i64 fi, .int .i64 li]

set_option maxRecDepth 100000 in
set_option maxHeartbeats 2000000 in
theorem snew_any (n : Int) (w : World) (h0 : 0 ≤ n) (h1 : n ≤ 30) :
    Calls Try.prog 10 #[.int .i64 n] w fun e w' => ∃ v, e = .returned (.tuple #[.agg #[.int .i64 0, v, .int .i64 (-1), .int .i64 n], .bool true]) ∧ Below w.heap.size w w' ∧ OwnPc w' w.heap.size v [] ∧ v ≠ .slice none 0 0 := by
  have HD : Hid (decide (0 ≤ n ∧ n ≤ 30) = true) := Lib.hid (decide_eq_true ⟨h0, h1⟩)
  go_enter Try.func10, Try.ntmps10
  go_wp2_with fail
  refine (l6In_any n 0 30 _).mono ?_
  rw [HD.out]
  rintro e w1 ⟨rfl, rfl⟩
  go_wp2_with fail
  refine bodyPost_ret (v := .tuple #[.agg #[.int .i64 0, .slice (some ⟨w.heap.size + 1, 0, none⟩) 0 0, .int .i64 (-1), .int .i64 n], .bool true]) ?hr rfl ?_
  case hr => rw [results_cell_tmp rfl]; go_simp
  have hb : Below w.heap.size w (w.alloc (.cells #[.int .i64 0, .slice (some ⟨w.heap.size + 1, 0, none⟩) 0 0, .int .i64 (-1), .int .i64 n] 24)) := (Below.refl _ _).alloc (Nat.le_refl _) _
  refine ⟨_, rfl, hb.alloc hb.size _, ?_, by simp⟩
  have ho := own_new 51 2 w.heap.size (w.alloc (.cells #[.int .i64 0, .slice (some ⟨w.heap.size + 1, 0, none⟩) 0 0, .int .i64 (-1), .int .i64 n] 24)) hb.size
  have hs : (w.alloc (.cells #[.int .i64 0, .slice (some ⟨w.heap.size + 1, 0, none⟩) 0 0, .int .i64 (-1), .int .i64 n] 24)).heap.size = w.heap.size + 1 := by simp
  rw [hs] at ho
  exact ho

theorem pend_at {rd : Int} {l : List Qc} (h : l ≠ []) : (l.getD (l.length - 1) pc0).1 + ((l.getD (l.length - 1) pc0).2.size : Int) = pend rd l := by
  have e := pend_snoc rd l.dropLast (l.getLast h)
  rw [List.dropLast_concat_getLast h] at e
  have e2 : l.getD (l.length - 1) pc0 = l.getLast h := by
    rw [List.getD_eq_getElem?_getD, List.getLast_eq_getElem h, List.getElem?_eq_getElem]
    rfl
  rw [e2, e]
def PBd (l : List Pc) : Prop := ∀ p ∈ l, 0 ≤ p.1 ∧ p.1 ≤ 1000 ∧ p.2.size ≤ 1000
theorem PBd.at {l : List Pc} (h : PBd l) (i : Nat) (hi : i < l.length) : 0 ≤ (l.getD i pc0).1 ∧ (l.getD i pc0).1 ≤ 1000 ∧ (l.getD i pc0).2.size ≤ 1000 := by
  have e : l.getD i pc0 = l[i] := by rw [List.getD_eq_getElem?_getD, List.getElem?_eq_getElem hi]; rfl
  rw [e]; exact h _ (List.getElem_mem hi)
set_option maxRecDepth 100000 in
set_option maxHeartbeats 2000000 in
theorem send_any (v : Value) (l : List Pc) (rd fi li : Int) (w : World) (h : Pcs w v l) (hp : PBd l) (hl : l.length ≤ 2000000) :
    Calls Try.prog 35 #[.agg #[.int .i64 rd, v, .int .i64 fi, .int .i64 li]] w fun e w' => e = .returned (.int .i64 (pend rd l)) ∧ Below w.heap.size w w' := by
  have HP := Lib.hid h
  have HO := Lib.hid hp
  obtain ⟨g, o, c, rfl, _, hc⟩ := h
  have HC := Lib.hid hc
  clear hp hc
  have BB : Hid (Below w.heap.size w (w.alloc (.cells #[.int .i64 rd, .slice (some ⟨g, o, none⟩) l.length c, .int .i64 fi, .int .i64 li] 24))) := Lib.hid ((Below.refl _ _).alloc (Nat.le_refl _) _)
  by_cases h0 : l.length < 1
  · have h0' : (l.length : Int) = 0 := by omega
    have HE : Hid (rd = pend rd l) := Lib.hid (by have : l = [] := List.length_eq_zero_iff.1 (by omega); rw [this]; rfl)
    go_enter Try.func35, Try.ntmps35
    go_wp2_with fail
    go_ret
    exact ⟨ret_int HE.out, BB.out⟩
  · have h0' : ¬ (l.length : Int) = 0 := by omega
    have HE := Lib.hid (pend_at (rd := rd) (l := l) (by rintro rfl; simp at h0))
    obtain ⟨e1, e2⟩ := HC.out (l.length - 1) (by omega)
    have hpk := HO.out.at (l.length - 1) (by omega)
    have i1 : IntKind.i64.wrap ((l.length : Int) - 1) = (l.length : Int) - 1 := IntWalk.i64_in _ (by omega)
    have i2 : (0 : Int) ≤ (l.length : Int) - 1 := by omega
    have i3 : ((l.length : Int) - 1).toNat = l.length - 1 := by omega
    have i4 : (l.length : Int) - 1 < (l.length : Int) := by omega
    have hg1 := World.block_lt_of_cell? w _ e1
    have hg2 := World.block_lt_of_cell? w _ e2
    generalize (l.getD (l.length - 1) pc0).1 = x at e1 hpk HE
    generalize (l.getD (l.length - 1) pc0).2 = d at e2 hpk HE
    go_enter Try.func35, Try.ntmps35
    have i5 : IntKind.i64.wrap (x + (d.size : Int)) = x + (d.size : Int) := IntWalk.i64_in _ (by omega)
    go_wp2_with fail
    go_ret
    exact ⟨ret_int HE.out, BB.out.alloc BB.out.size _⟩

set_option maxRecDepth 100000 in
set_option maxHeartbeats 2000000 in
theorem scopy_any (v : Value) (l : List Pc) (rd fi li : Int) (w : World) (h : Pcs w v l) (hl : l.length ≤ 2000000) :
    Calls Try.prog 48 #[.agg #[.int .i64 rd, v, .int .i64 fi, .int .i64 li]] w fun e w' => ∃ v', e = .returned (.agg #[.int .i64 rd, v', .int .i64 fi, .int .i64 li]) ∧ Below w.heap.size w w' ∧ OwnPc w' w.heap.size v' l ∧ v' ≠ .slice none 0 0 := by
  obtain ⟨i0, hi, hz0, hz1, hz2⟩ := info_parts try_infoPiece
  have HI := Lib.hid hi
  obtain ⟨g, o, c, rfl, _, hc⟩ := id h
  have HP := Lib.hid (Pcs.below h (((Below.refl _ _).alloc (Nat.le_refl _) (.cells #[.int .i64 rd, .slice (some ⟨g, o, none⟩) l.length c, .int .i64 fi, .int .i64 li] 24))))
  clear hc hi h
  have R0 := Lib.hid (Frm.new w 24 [.int .i64 rd, .slice (some ⟨g, o, none⟩) l.length c, .int .i64 fi, .int .i64 li])
  have T0 := Lib.hid (Thaw.new w 24 [.int .i64 rd, .slice (some ⟨g, o, none⟩) l.length c, .int .i64 fi, .int .i64 li])
  have BB : Hid (Below w.heap.size w (w.alloc (.cells #[.int .i64 rd, .slice (some ⟨g, o, none⟩) l.length c, .int .i64 fi, .int .i64 li] 24))) := Lib.hid ((Below.refl _ _).alloc (Nat.le_refl _) _)
  go_enter Try.func48, Try.ntmps48
  go_wp2_with (at_builtin; refine hold ?_)
  refine unhold ?_
  generalize hW0 : (w.alloc (.cells #[.int .i64 rd, .slice (some ⟨g, o, none⟩) l.length c, .int .i64 fi, .int .i64 li] 24)) = W0 at *
  have hs0 : W0.heap.size = w.heap.size + 1 := by rw [← hW0]; simp
  have B1 : Below W0.heap.size W0 (W0.alloc (.cells #[.int .i64 0, .slice none 0 0, .int .i64 0, .int .i64 0] 24)) := (Below.refl _ _).alloc (Nat.le_refl _) _
  have R1 := Frm.new W0 24 [.int .i64 0, .slice none 0 0, .int .i64 0, .int .i64 0]
  have T1 := Thaw.new W0 24 [.int .i64 0, .slice none 0 0, .int .i64 0, .int .i64 0]
  have hs1 : (W0.alloc (.cells #[.int .i64 0, .slice none 0 0, .int .i64 0, .int .i64 0] 24)).heap.size = w.heap.size + 1 + 1 := by simp [hs0]
  change Frm (W0.alloc (.cells #[.int .i64 0, .slice none 0 0, .int .i64 0, .int .i64 0] 24)) _ _ at R1
  change Thaw (W0.alloc (.cells #[.int .i64 0, .slice none 0 0, .int .i64 0, .int .i64 0] 24)) _ at T1
  generalize (W0.alloc (.cells #[.int .i64 0, .slice none 0 0, .int .i64 0, .int .i64 0] 24)) = W1 at *
  have B2 : Below W1.heap.size W1 (W1.alloc (.cells #[] 51)) := (Below.refl _ _).alloc (Nat.le_refl _) _
  have O2 := own_new 51 2 (w.heap.size + 1 + 1) W1 (by omega)
  have hs2 : (W1.alloc (.cells #[] 51)).heap.size = w.heap.size + 1 + 1 + 1 := by simp [hs1]
  rw [hs1] at O2
  generalize (W1.alloc (.cells #[] 51)) = W2 at *
  have P2 := (HP.out.below B1).below B2
  refine wpList_append_own_at (w := W2) rfl (.tmp 3) (.tmp 5) 22 rfl (w.heap.size + 1 + 1) 51 i0 (.agg #[.int .i64 0, .string ⟨#[]⟩]) 2 24 Try.underlying22 HI.out hz0 hz1 hz2 rfl (by decide) (.slice (some ⟨w.heap.size + 1 + 1, 0, none⟩) 0 0) 0 [] rfl O2 ⟨g, o, none⟩ l.length c (pcells l) rfl (pcells_len l) P2.news (pcells_one l) ?c1 ?c2 ?c3 ?_
  case c1 => unfold maxLen; omega
  case c2 => omega
  case c3 => omega
  intro v3 w3 ho3 hg3 hiff3 hob3
  have R2 := (R0.out.below B1 (by omega)).below B2 (by omega)
  have T2 := (T0.out.below B1 (by omega)).below B2 (by omega)
  have R2' := R1.below B2 (by omega)
  have T2' := T1.below B2 (by omega)
  have B3 : Below W2.heap.size W2 W2 := Below.refl _ _
  have hown2 : (Value.slice (some ⟨w.heap.size + 1 + 1, 0, none⟩) 0 0).ownBlock = some (w.heap.size + 1 + 1) := rfl
  rw [hown2] at hg3
  have O3 : Hid (OwnPc w3 (w.heap.size + 1 + 1) v3 l) := Lib.hid (by unfold OwnPc; simpa using ho3)
  have hv3 : v3 ≠ .slice none 0 0 := fun e => by have := (hiff3.1 e).1; simp at this
  obtain ⟨g3, c3, rfl, hc3, hg3a, hg3b⟩ := O3.out.sl hv3
  rw [hs0] at R2'
  rw [hs0] at T2'
  have R3 : Hid (Frm w3 w.heap.size [.int .i64 rd, .slice (some ⟨g, o, none⟩) l.length c, .int .i64 fi, .int .i64 li]) := Lib.hid (R2.grown (by simp) hg3 (by omega))
  have T3 : Hid (Thaw w3 w.heap.size) := Lib.hid (T2.grown (by omega) hg3 (by omega))
  have R3' : Hid (Frm w3 (w.heap.size + 1) [.int .i64 0, .slice none 0 0, .int .i64 0, .int .i64 0]) := Lib.hid (R2'.grown (by simp) hg3 (by omega))
  have T3' : Hid (Thaw w3 (w.heap.size + 1)) := Lib.hid (T2'.grown (by omega) hg3 (by omega))
  have BZ : Hid (Below w.heap.size w w3) := Lib.hid (((BB.out.trans (B1.mono (by omega))).trans (B2.mono (by omega))).grown hg3 (by omega) (fun k hk => by injection hk with hk; omega))
  clear R2 T2 R2' T2' R1 T1 B1 B2 B3 ho3 hg3 hiff3 hob3 hv3 HP P2 O2 R0 T0 BB
  have hne : ∀ x, (Value.slice (some ⟨g3, 0, none⟩) l.length c3).ownBlock = some x → w.heap.size ≠ x := fun x hx => by
    have hx' : g3 = x := Option.some.inj hx
    omega
  have F4 : Hid (Frm (w3.setCell ⟨w.heap.size, 1, none⟩ (.slice (some ⟨g3, 0, none⟩) l.length c3)) w.heap.size [.int .i64 rd, .slice (some ⟨g3, 0, none⟩) l.length c3, .int .i64 fi, .int .i64 li]) := Lib.hid (R3.out.set (i := 1) (by simp) _)
  have F4' : Hid (Frm (w3.setCell ⟨w.heap.size, 1, none⟩ (.slice (some ⟨g3, 0, none⟩) l.length c3)) (w.heap.size + 1) [.int .i64 0, .slice none 0 0, .int .i64 0, .int .i64 0]) := Lib.hid (R3'.out.far (by omega) _)
  have T4' : Hid (Thaw (w3.setCell ⟨w.heap.size, 1, none⟩ (.slice (some ⟨g3, 0, none⟩) l.length c3)) (w.heap.size + 1)) := Lib.hid (T3'.out.set _ _)
  have O4 : Hid (OwnPc (w3.setCell ⟨w.heap.size, 1, none⟩ (.slice (some ⟨g3, 0, none⟩) l.length c3)) (w.heap.size + 1 + 1) (.slice (some ⟨g3, 0, none⟩) l.length c3) l) := Lib.hid (own_far O3.out hne)
  have B4 : Hid (Below w.heap.size w (w3.setCell ⟨w.heap.size, 1, none⟩ (.slice (some ⟨g3, 0, none⟩) l.length c3))) := Lib.hid (BZ.out.setCell (p := ⟨w.heap.size, 1, none⟩) (Nat.le_refl _) _)
  have c1 : w3.cell? ⟨w.heap.size, 1, none⟩ = some (.slice (some ⟨g, o, none⟩) l.length c) := R3.out 1
  have z1 : w3.frozen? ⟨w.heap.size, 1, none⟩ = false := T3.out 1
  have s0 := F4.out 0
  have s1 := F4.out 1
  have s2 := F4.out 2
  have s3 := F4.out 3
  have r0 := F4'.out 0
  have r1 := F4'.out 1
  have r2 := F4'.out 2
  have r3 := F4'.out 3
  have t0 := T4'.out 0
  have t1 := T4'.out 1
  have t2 := T4'.out 2
  have t3 := T4'.out 3
  go_wp2_with fail
  clear s0 s1 s2 s3 r0 r1 r2 r3 t0 t1 t2 t3 c1 z1
  generalize (w3.setCell ⟨w.heap.size, 1, none⟩ (.slice (some ⟨g3, 0, none⟩) l.length c3)) = W4 at *
  have F5 := (((F4'.out.set (i := 0) (by simp) (.int .i64 rd)).set (i := 1) (by simp) (.slice (some ⟨g3, 0, none⟩) l.length c3)).set (i := 2) (by simp) (.int .i64 fi)).set (i := 3) (by simp) (.int .i64 li)
  have B5 := Below.setCell (Below.setCell (Below.setCell (Below.setCell B4.out (p := ⟨w.heap.size + 1, 0, none⟩) (Nat.le_succ _) (.int .i64 rd)) (p := ⟨w.heap.size + 1, 1, none⟩) (Nat.le_succ _) (.slice (some ⟨g3, 0, none⟩) l.length c3)) (p := ⟨w.heap.size + 1, 2, none⟩) (Nat.le_succ _) (.int .i64 fi)) (p := ⟨w.heap.size + 1, 3, none⟩) (Nat.le_succ _) (.int .i64 li)
  have hne : ∀ x, (Value.slice (some ⟨g3, 0, none⟩) l.length c3).ownBlock = some x → w.heap.size + 1 ≠ x := fun x hx => by
    have hx' : g3 = x := Option.some.inj hx
    omega
  have O5 := own_far (i := 3) (u := .int .i64 li) (own_far (i := 2) (u := .int .i64 fi) (own_far (i := 1) (u := .slice (some ⟨g3, 0, none⟩) l.length c3) (own_far (i := 0) (u := .int .i64 rd) O4.out hne) hne) hne) hne
  generalize ((((W4.setCell ⟨w.heap.size + 1, 0, none⟩ (.int .i64 rd)).setCell ⟨w.heap.size + 1, 1, none⟩ (.slice (some ⟨g3, 0, none⟩) l.length c3)).setCell ⟨w.heap.size + 1, 2, none⟩ (.int .i64 fi)).setCell ⟨w.heap.size + 1, 3, none⟩ (.int .i64 li)) = W5 at *
  obtain ⟨s0, s1, s2, s3⟩ : W5.cell? ⟨w.heap.size + 1, 0, none⟩ = some (.int .i64 rd) ∧ W5.cell? ⟨w.heap.size + 1, 1, none⟩ = some (.slice (some ⟨g3, 0, none⟩) l.length c3) ∧ W5.cell? ⟨w.heap.size + 1, 2, none⟩ = some (.int .i64 fi) ∧ W5.cell? ⟨w.heap.size + 1, 3, none⟩ = some (.int .i64 li) := ⟨F5 0, F5 1, F5 2, F5 3⟩
  refine bodyPost_ret (v := .agg #[.int .i64 rd, .slice (some ⟨g3, 0, none⟩) l.length c3, .int .i64 fi, .int .i64 li]) ?hr rfl ?_
  case hr => rw [results_cell_one rfl]; go_simp
  exact ⟨_, rfl, B5, OwnPc.lower O5 (by omega), by simp⟩

end Go.Proofs.Ythdhjjbgegcncaa
