/- Chapter 31, the model: RecvRead, RecvReady, RecvEnded, RecvGrant. -/
import Derived.Test.YthdhjjbgegcncaaQvW
namespace Go.Proofs.Ythdhjjbgegcncaa
open Go.RowKit
set_option linter.unusedVariables false
set_option linter.unusedSimpArgs false

/-- What RecvRead answers. -/
def RReadAns (w : World) (rd : Int) (l : List Qc) (fi li n : Int) (e : Ending) (w' : World) : Prop :=
  if rvok rd l fi li ∧ (0 ≤ n ∧ n ≤ 30) then RedAns w rd fi li l (min n.toNat (rdy rd l)) e w'
  else e = .returned (.tuple #[.agg #[.int .i64 0, .slice none 0 0, .int .i64 0, .int .i64 0], .string ⟨#[]⟩]) ∧ Below w.heap.size w w'
theorem rread_no {P : Program} {F : FuncId} {args : Array Value} {w : World} {rd fi li n : Int} {l : List Qc} (h : ¬ (rvok rd l fi li ∧ (0 ≤ n ∧ n ≤ 30)))
    (hc : Calls P F args w fun e w' => e = .returned (.tuple #[.agg #[.int .i64 0, .slice none 0 0, .int .i64 0, .int .i64 0], .string ⟨#[]⟩]) ∧ Below w.heap.size w w') : Calls P F args w (RReadAns w rd l fi li n) :=
  hc.mono fun e w' k => by unfold RReadAns; rw [if_neg h]; exact k
theorem rread_yes {P : Program} {F : FuncId} {args : Array Value} {w : World} {rd fi li n : Int} {l : List Qc} (h : rvok rd l fi li ∧ (0 ≤ n ∧ n ≤ 30))
    (hc : Calls P F args w (RedAns w rd fi li l (min n.toNat (rdy rd l)))) : Calls P F args w (RReadAns w rd l fi li n) :=
  hc.mono fun e w' k => by unfold RReadAns; rw [if_pos h]; exact k
set_option maxRecDepth 100000 in
set_option maxHeartbeats 8000000 in
theorem srecvread_any (v : Value) (l : List Pc) (rd fi li n : Int) (B0 : Nat) (w : World) (ho : OwnPc w B0 v l) (hv : v ≠ .slice none 0 0) (hl : l.length ≤ 2000000) (hsz : ∀ p ∈ l, p.2.size ≤ 2000000) :
    Calls Try.prog 23 #[.agg #[.int .i64 rd, v, .int .i64 fi, .int .i64 li], .int .i64 n] w (RReadAns w rd l fi li n) := by
  have h := Pcs.of_own ho hv
  have HP := Lib.hid h
  have HO := Lib.hid ho
  have HSZ := Lib.hid hsz
  obtain ⟨g, c, rfl, hlc, hgB, hgw0⟩ := ho.sl hv
  have CU := Lib.hid (Cur.start w (rd := rd) fi li h)
  clear hsz ho h hv
  have KV : ∀ b : Bool, decide (rvok rd l fi li) = b → Hid (∀ W : World, Below w.heap.size w W → Calls Try.prog 16 #[.agg #[.int .i64 rd, .slice (some ⟨g, 0, none⟩) l.length c, .int .i64 fi, .int .i64 li]] W fun e w' => e = .returned (.bool b) ∧ Below W.heap.size W w') := fun b hb => Lib.hid fun W hW => by have k := srvval_any _ l rd fi li W (Pcs.below HP.out hW) hl HSZ.out; rw [hb] at k; exact k
  have KO : ∀ b : Bool, decide (0 ≤ n ∧ n ≤ 30) = b → Hid (∀ W : World, Calls Try.prog 29 #[.int .i64 n, .int .i64 0, .int .i64 30] W fun e w' => e = .returned (.bool b) ∧ W = w') := fun b hb => Lib.hid fun W => by have k := l6In_any n 0 30 W; rw [hb] at k; exact k
  by_cases k1 : rvok rd l fi li
  case neg =>
    have C1 := KV false (decide_eq_false k1)
    have HF : Hid (¬ (rvok rd l fi li ∧ (0 ≤ n ∧ n ≤ 30))) := Lib.hid (fun h => k1 h.1)
    refine rread_no HF.out ?_
    clear KV KO k1
    go_enter Try.func23, Try.ntmps23
    go_wp2_with fail
    refine (C1.out _ CU.out.1).mono ?_
    rintro e w1 ⟨rfl, hb1⟩
    have CU1 := Lib.hid (CU.out.below hb1)
    clear hb1
    obtain ⟨B2, P2, F2, Z2, T2, S2⟩ := CU1.out
    have q0 := F2 0
    have q1 := F2 1
    have q2 := F2 2
    have q3 := F2 3
    have r0 := Z2 0
    have r1 := Z2 1
    have r2 := Z2 2
    have r3 := Z2 3
    have t0 := T2 0
    have t1 := T2 1
    have t2 := T2 2
    have t3 := T2 3
    clear B2 P2 F2 Z2 T2 S2
    go_wp2_with fail
    obtain ⟨B5, F5⟩ := CU1.out.fin0 (.int .i64 0) (.slice none 0 0) (.int .i64 0) (.int .i64 0)
    clear q0 q1 q2 q3 r0 r1 r2 r3 t0 t1 t2 t3
    generalize ((((w1.setCell ⟨w.heap.size + 1, 0, none⟩ (.int .i64 0)).setCell ⟨w.heap.size + 1, 1, none⟩ (.slice none 0 0)).setCell ⟨w.heap.size + 1, 2, none⟩ (.int .i64 0)).setCell ⟨w.heap.size + 1, 3, none⟩ (.int .i64 0)) = W5 at *
    have s0 := F5 0
    have s1 := F5 1
    have s2 := F5 2
    have s3 := F5 3
    refine bodyPost_ret (v := .tuple #[.agg #[.int .i64 0, .slice none 0 0, .int .i64 0, .int .i64 0], .string ⟨#[]⟩]) ?hr rfl ?_
    case hr => rw [results_cell_tmp rfl]; go_simp
    exact ⟨rfl, B5⟩
  have C1 := KV true (decide_eq_true k1)
  have K1 := Lib.hid k1
  by_cases k2 : 0 ≤ n ∧ n ≤ 30
  case neg =>
    have C2 := KO false (decide_eq_false k2)
    have HF : Hid (¬ (rvok rd l fi li ∧ (0 ≤ n ∧ n ≤ 30))) := Lib.hid (fun h => k2 h.2)
    refine rread_no HF.out ?_
    clear KV KO k1 k2
    go_enter Try.func23, Try.ntmps23
    go_wp2_with fail
    refine (C1.out _ CU.out.1).mono ?_
    rintro e w1 ⟨rfl, hb1⟩
    have CU1 := Lib.hid (CU.out.below hb1)
    clear hb1
    obtain ⟨B2, P2, F2, Z2, T2, S2⟩ := CU1.out
    have q0 := F2 0
    have q1 := F2 1
    have q2 := F2 2
    have q3 := F2 3
    have r0 := Z2 0
    have r1 := Z2 1
    have r2 := Z2 2
    have r3 := Z2 3
    have t0 := T2 0
    have t1 := T2 1
    have t2 := T2 2
    have t3 := T2 3
    clear B2 P2 F2 Z2 T2 S2
    go_wp2_with fail
    refine (C2.out _).mono ?_
    rintro e w2 ⟨rfl, rfl⟩
    go_wp2_with fail
    obtain ⟨B5, F5⟩ := CU1.out.fin0 (.int .i64 0) (.slice none 0 0) (.int .i64 0) (.int .i64 0)
    clear q0 q1 q2 q3 r0 r1 r2 r3 t0 t1 t2 t3
    generalize ((((w1.setCell ⟨w.heap.size + 1, 0, none⟩ (.int .i64 0)).setCell ⟨w.heap.size + 1, 1, none⟩ (.slice none 0 0)).setCell ⟨w.heap.size + 1, 2, none⟩ (.int .i64 0)).setCell ⟨w.heap.size + 1, 3, none⟩ (.int .i64 0)) = W5 at *
    have s0 := F5 0
    have s1 := F5 1
    have s2 := F5 2
    have s3 := F5 3
    refine bodyPost_ret (v := .tuple #[.agg #[.int .i64 0, .slice none 0 0, .int .i64 0, .int .i64 0], .string ⟨#[]⟩]) ?hr rfl ?_
    case hr => rw [results_cell_tmp rfl]; go_simp
    exact ⟨rfl, B5⟩
  have C2 := KO true (decide_eq_true k2)
  refine rread_yes ⟨k1, k2⟩ ?_
  have KE : Hid (pok rd l ∧ 0 ≤ rd ∧ pend rd l ≤ 30 ∧ l.length ≤ 1000) := Lib.hid ⟨k1.2.2.1, k1.2.1.1, by have := k1.1.2; have := k1.2.2.2.1; omega, by have := rvok_len k1; omega⟩
  obtain ⟨n0, n1⟩ := k2
  obtain ⟨k, hk⟩ : ∃ k, min n.toNat (rdy rd l) = k := ⟨_, rfl⟩
  rw [hk]
  have HK := Lib.hid hk
  clear KV KO k1 hk
  go_enter Try.func23, Try.ntmps23
  go_wp2_with fail
  refine (C1.out _ CU.out.1).mono ?_
  rintro e w1 ⟨rfl, hb1⟩
  have CU1 := Lib.hid (CU.out.below hb1)
  clear hb1
  obtain ⟨B2, P2, F2, Z2, T2, S2⟩ := CU1.out
  have q0 := F2 0
  have q1 := F2 1
  have q2 := F2 2
  have q3 := F2 3
  have r0 := Z2 0
  have r1 := Z2 1
  have r2 := Z2 2
  have r3 := Z2 3
  have t0 := T2 0
  have t1 := T2 1
  have t2 := T2 2
  have t3 := T2 3
  clear B2 P2 F2 Z2 T2 S2
  go_wp2_with fail
  refine (C2.out _).mono ?_
  rintro e w2 ⟨rfl, rfl⟩
  go_wp2_with fail
  refine (sreadf_any _ l rd fi li n _ (Pcs.below HP.out CU1.out.1) KE.out.1 KE.out.2.1 KE.out.2.2.1 KE.out.2.2.2 n0 (by omega)).mono ?_
  rw [HK.out]
  rintro e w3 ⟨rd2, v2, l2, sx, rfl, hx, hre, hb2, ho2, hn2⟩
  have HRX := Lib.hid hx
  have HRE := Lib.hid hre
  clear hx hre
  have CU2 := Lib.hid (CU1.out.below hb2)
  clear hb2 q0 q1 q2 q3 r0 r1 r2 r3 t0 t1 t2 t3
  obtain ⟨g2, c2, rfl, hc2, hga, hgb⟩ := ho2.sl hn2
  obtain ⟨B2, P2, F2, Z2, T2, S2⟩ := CU2.out
  have FIN := Lib.hid (fin_cells (rd := rd2) (fi := fi) (li := li) B2 Z2 ho2 CU1.out.2.2.2.2.2 hga)
  have r0 := Z2 0
  have r1 := Z2 1
  have r2 := Z2 2
  have r3 := Z2 3
  have t0 := T2 0
  have t1 := T2 1
  have t2 := T2 2
  have t3 := T2 3
  clear B2 P2 F2 Z2 T2 S2 ho2 hn2
  go_wp2_with fail
  obtain ⟨B5, F5, O5⟩ := FIN.out
  clear FIN r0 r1 r2 r3 t0 t1 t2 t3
  generalize ((((w3.setCell ⟨w.heap.size + 1, 0, none⟩ (.int .i64 (rd2))).setCell ⟨w.heap.size + 1, 1, none⟩ (.slice (some ⟨g2, 0, none⟩) l2.length c2)).setCell ⟨w.heap.size + 1, 2, none⟩ (.int .i64 fi)).setCell ⟨w.heap.size + 1, 3, none⟩ (.int .i64 li)) = W5 at *
  have s0 := F5 0
  have s1 := F5 1
  have s2 := F5 2
  have s3 := F5 3
  refine bodyPost_ret (v := .tuple #[.agg #[.int .i64 (rd2), .slice (some ⟨g2, 0, none⟩) l2.length c2, .int .i64 fi, .int .i64 li], .string sx]) ?hr rfl ?_
  case hr => rw [results_cell_tmp rfl]; go_simp
  exact ⟨rd2, _, l2, sx, rfl, HRX.out, HRE.out, B5, O5, by simp⟩
set_option maxRecDepth 100000 in
set_option maxHeartbeats 8000000 in
theorem srecvended_any (v : Value) (l : List Pc) (rd fi li : Int) (w : World) (h : Pcs w v l) (hl : l.length ≤ 2000000) (hsz : ∀ p ∈ l, p.2.size ≤ 2000000) :
    Calls Try.prog 25 #[.agg #[.int .i64 rd, v, .int .i64 fi, .int .i64 li]] w fun e w' => e = .returned (.bool (decide (rvok rd l fi li ∧ rd = fi))) ∧ Below w.heap.size w w' := by
  have HP := Lib.hid h
  have HSZ := Lib.hid hsz
  obtain ⟨g, o, c, rfl, _, hc⟩ := h
  have R0 := Lib.hid (Frm.new w 24 [.int .i64 rd, .slice (some ⟨g, o, none⟩) l.length c, .int .i64 fi, .int .i64 li])
  have BB : Hid (Below w.heap.size w (w.alloc (.cells #[.int .i64 rd, .slice (some ⟨g, o, none⟩) l.length c, .int .i64 fi, .int .i64 li] 24))) := Lib.hid ((Below.refl _ _).alloc (Nat.le_refl _) _)
  clear hsz hc
  have KV : ∀ b : Bool, decide (rvok rd l fi li) = b → Hid (∀ W : World, Below w.heap.size w W → Calls Try.prog 16 #[.agg #[.int .i64 rd, .slice (some ⟨g, o, none⟩) l.length c, .int .i64 fi, .int .i64 li]] W fun e w' => e = .returned (.bool b) ∧ Below W.heap.size W w') := fun b hb => Lib.hid fun W hW => by have k := srvval_any _ l rd fi li W (Pcs.below HP.out hW) hl HSZ.out; rw [hb] at k; exact k
  by_cases k1 : rvok rd l fi li
  case neg =>
    have C1 := KV false (decide_eq_false k1)
    rw [decide_eq_false (fun h : rvok rd l fi li ∧ rd = fi => k1 h.1)]
    clear KV k1
    go_enter Try.func25, Try.ntmps25
    go_wp2_with fail
    refine (C1.out _ BB.out).mono ?_
    rintro e w1 ⟨rfl, hb1⟩
    have B1 := Lib.hid (BB.out.trans (hb1.mono BB.out.size))
    have R1 := Lib.hid (R0.out.below hb1 (by simp))
    clear hb1
    have q0 := R1.out 0
    have q1 := R1.out 1
    have q2 := R1.out 2
    have q3 := R1.out 3
    go_wp2_with fail
    go_ret
    exact ⟨rfl, B1.out⟩
  have C1 := KV true (decide_eq_true k1)
  have HE : Hid ((rd == fi) = decide (rvok rd l fi li ∧ rd = fi)) := Lib.hid (by
    by_cases e : rd = fi
    · rw [decide_eq_true (⟨k1, e⟩ : rvok rd l fi li ∧ rd = fi), beq_iff_eq]; exact e
    · rw [decide_eq_false (fun h : rvok rd l fi li ∧ rd = fi => e h.2), beq_eq_false_iff_ne]; exact e)
  clear KV k1
  go_enter Try.func25, Try.ntmps25
  go_wp2_with fail
  refine (C1.out _ BB.out).mono ?_
  rintro e w1 ⟨rfl, hb1⟩
  have B1 := Lib.hid (BB.out.trans (hb1.mono BB.out.size))
  have R1 := Lib.hid (R0.out.below hb1 (by simp))
  clear hb1
  have q0 := R1.out 0
  have q1 := R1.out 1
  have q2 := R1.out 2
  have q3 := R1.out 3
  go_wp2_with fail
  go_ret
  exact ⟨ret_bool HE.out, B1.out⟩
/-- What RecvGrant answers. -/
def RGrantAns (w : World) (rd : Int) (l : List Qc) (fi li n : Int) (e : Ending) (w' : World) : Prop :=
  if rvok rd l fi li ∧ (0 ≤ n ∧ n ≤ 30) then ∃ v, e = .returned (.tuple #[.agg #[.int .i64 rd, v, .int .i64 fi, .int .i64 (if n < li then li else n)], .bool (decide (li ≤ n))]) ∧ Below w.heap.size w w' ∧ OwnPc w' w.heap.size v l ∧ v ≠ .slice none 0 0
  else e = .returned (.tuple #[.agg #[.int .i64 0, .slice none 0 0, .int .i64 0, .int .i64 0], .bool false]) ∧ Below w.heap.size w w'
theorem rgrant_no {P : Program} {F : FuncId} {args : Array Value} {w : World} {rd fi li n : Int} {l : List Qc} (h : ¬ (rvok rd l fi li ∧ (0 ≤ n ∧ n ≤ 30)))
    (hc : Calls P F args w fun e w' => e = .returned (.tuple #[.agg #[.int .i64 0, .slice none 0 0, .int .i64 0, .int .i64 0], .bool false]) ∧ Below w.heap.size w w') : Calls P F args w (RGrantAns w rd l fi li n) :=
  hc.mono fun e w' k => by unfold RGrantAns; rw [if_neg h]; exact k
theorem rgrant_yes {P : Program} {F : FuncId} {args : Array Value} {w : World} {rd fi li n x : Int} {b : Bool} {l : List Qc} (h : rvok rd l fi li ∧ (0 ≤ n ∧ n ≤ 30)) (hx : x = if n < li then li else n) (hb : b = decide (li ≤ n))
    (hc : Calls P F args w fun e w' => ∃ v, e = .returned (.tuple #[.agg #[.int .i64 rd, v, .int .i64 fi, .int .i64 x], .bool b]) ∧ Below w.heap.size w w' ∧ OwnPc w' w.heap.size v l ∧ v ≠ .slice none 0 0) : Calls P F args w (RGrantAns w rd l fi li n) :=
  hc.mono fun e w' k => by unfold RGrantAns; rw [if_pos h, ← hx, ← hb]; exact k
set_option maxRecDepth 100000 in
set_option maxHeartbeats 8000000 in
theorem srecvgrant_any (v : Value) (l : List Pc) (rd fi li n : Int) (B0 : Nat) (w : World) (ho : OwnPc w B0 v l) (hv : v ≠ .slice none 0 0) (hl : l.length ≤ 2000000) (hsz : ∀ p ∈ l, p.2.size ≤ 2000000) :
    Calls Try.prog 27 #[.agg #[.int .i64 rd, v, .int .i64 fi, .int .i64 li], .int .i64 n] w (RGrantAns w rd l fi li n) := by
  have h := Pcs.of_own ho hv
  have HP := Lib.hid h
  have HO := Lib.hid ho
  have HSZ := Lib.hid hsz
  obtain ⟨g, c, rfl, hlc, hgB, hgw0⟩ := ho.sl hv
  have CU := Lib.hid (Cur.start w (rd := rd) fi li h)
  clear hsz ho h hv
  have KV : ∀ b : Bool, decide (rvok rd l fi li) = b → Hid (∀ W : World, Below w.heap.size w W → Calls Try.prog 16 #[.agg #[.int .i64 rd, .slice (some ⟨g, 0, none⟩) l.length c, .int .i64 fi, .int .i64 li]] W fun e w' => e = .returned (.bool b) ∧ Below W.heap.size W w') := fun b hb => Lib.hid fun W hW => by have k := srvval_any _ l rd fi li W (Pcs.below HP.out hW) hl HSZ.out; rw [hb] at k; exact k
  have KO : ∀ b : Bool, decide (0 ≤ n ∧ n ≤ 30) = b → Hid (∀ W : World, Calls Try.prog 29 #[.int .i64 n, .int .i64 0, .int .i64 30] W fun e w' => e = .returned (.bool b) ∧ W = w') := fun b hb => Lib.hid fun W => by have k := l6In_any n 0 30 W; rw [hb] at k; exact k
  by_cases k1 : rvok rd l fi li
  case neg =>
    have C1 := KV false (decide_eq_false k1)
    have HF : Hid (¬ (rvok rd l fi li ∧ (0 ≤ n ∧ n ≤ 30))) := Lib.hid (fun h => k1 h.1)
    refine rgrant_no HF.out ?_
    clear KV KO k1
    go_enter Try.func27, Try.ntmps27
    go_wp2_with fail
    refine (C1.out _ CU.out.1).mono ?_
    rintro e w1 ⟨rfl, hb1⟩
    have CU1 := Lib.hid (CU.out.below hb1)
    clear hb1
    obtain ⟨B2, P2, F2, Z2, T2, S2⟩ := CU1.out
    have q0 := F2 0
    have q1 := F2 1
    have q2 := F2 2
    have q3 := F2 3
    have r0 := Z2 0
    have r1 := Z2 1
    have r2 := Z2 2
    have r3 := Z2 3
    have t0 := T2 0
    have t1 := T2 1
    have t2 := T2 2
    have t3 := T2 3
    clear B2 P2 F2 Z2 T2 S2
    go_wp2_with fail
    obtain ⟨B5, F5⟩ := CU1.out.fin0 (.int .i64 0) (.slice none 0 0) (.int .i64 0) (.int .i64 0)
    clear q0 q1 q2 q3 r0 r1 r2 r3 t0 t1 t2 t3
    generalize ((((w1.setCell ⟨w.heap.size + 1, 0, none⟩ (.int .i64 0)).setCell ⟨w.heap.size + 1, 1, none⟩ (.slice none 0 0)).setCell ⟨w.heap.size + 1, 2, none⟩ (.int .i64 0)).setCell ⟨w.heap.size + 1, 3, none⟩ (.int .i64 0)) = W5 at *
    have s0 := F5 0
    have s1 := F5 1
    have s2 := F5 2
    have s3 := F5 3
    refine bodyPost_ret (v := .tuple #[.agg #[.int .i64 0, .slice none 0 0, .int .i64 0, .int .i64 0], .bool false]) ?hr rfl ?_
    case hr => rw [results_cell_tmp rfl]; go_simp
    exact ⟨rfl, B5⟩
  have C1 := KV true (decide_eq_true k1)
  have K1 := Lib.hid k1
  by_cases k2 : 0 ≤ n ∧ n ≤ 30
  case neg =>
    have C2 := KO false (decide_eq_false k2)
    have HF : Hid (¬ (rvok rd l fi li ∧ (0 ≤ n ∧ n ≤ 30))) := Lib.hid (fun h => k2 h.2)
    refine rgrant_no HF.out ?_
    clear KV KO k1 k2
    go_enter Try.func27, Try.ntmps27
    go_wp2_with fail
    refine (C1.out _ CU.out.1).mono ?_
    rintro e w1 ⟨rfl, hb1⟩
    have CU1 := Lib.hid (CU.out.below hb1)
    clear hb1
    obtain ⟨B2, P2, F2, Z2, T2, S2⟩ := CU1.out
    have q0 := F2 0
    have q1 := F2 1
    have q2 := F2 2
    have q3 := F2 3
    have r0 := Z2 0
    have r1 := Z2 1
    have r2 := Z2 2
    have r3 := Z2 3
    have t0 := T2 0
    have t1 := T2 1
    have t2 := T2 2
    have t3 := T2 3
    clear B2 P2 F2 Z2 T2 S2
    go_wp2_with fail
    refine (C2.out _).mono ?_
    rintro e w2 ⟨rfl, rfl⟩
    go_wp2_with fail
    obtain ⟨B5, F5⟩ := CU1.out.fin0 (.int .i64 0) (.slice none 0 0) (.int .i64 0) (.int .i64 0)
    clear q0 q1 q2 q3 r0 r1 r2 r3 t0 t1 t2 t3
    generalize ((((w1.setCell ⟨w.heap.size + 1, 0, none⟩ (.int .i64 0)).setCell ⟨w.heap.size + 1, 1, none⟩ (.slice none 0 0)).setCell ⟨w.heap.size + 1, 2, none⟩ (.int .i64 0)).setCell ⟨w.heap.size + 1, 3, none⟩ (.int .i64 0)) = W5 at *
    have s0 := F5 0
    have s1 := F5 1
    have s2 := F5 2
    have s3 := F5 3
    refine bodyPost_ret (v := .tuple #[.agg #[.int .i64 0, .slice none 0 0, .int .i64 0, .int .i64 0], .bool false]) ?hr rfl ?_
    case hr => rw [results_cell_tmp rfl]; go_simp
    exact ⟨rfl, B5⟩
  have C2 := KO true (decide_eq_true k2)
  by_cases k3 : n < li
  case pos =>
    refine rgrant_yes (x := li) (b := false) ⟨k1, k2⟩ (by rw [if_pos k3]) (decide_eq_false (by omega)).symm ?_
    have f1 : decide (n < li) = true := decide_eq_true k3
    clear KV KO k1 k2
    go_enter Try.func27, Try.ntmps27
    go_wp2_with fail
    refine (C1.out _ CU.out.1).mono ?_
    rintro e w1 ⟨rfl, hb1⟩
    have CU1 := Lib.hid (CU.out.below hb1)
    clear hb1
    obtain ⟨B2, P2, F2, Z2, T2, S2⟩ := CU1.out
    have q0 := F2 0
    have q1 := F2 1
    have q2 := F2 2
    have q3 := F2 3
    have r0 := Z2 0
    have r1 := Z2 1
    have r2 := Z2 2
    have r3 := Z2 3
    have t0 := T2 0
    have t1 := T2 1
    have t2 := T2 2
    have t3 := T2 3
    clear B2 P2 F2 Z2 T2 S2
    go_wp2_with fail
    refine (C2.out _).mono ?_
    rintro e w2 ⟨rfl, rfl⟩
    go_wp2_with fail
    refine (scopy_any _ l rd fi li _ CU1.out.2.1 hl).mono ?_
    rintro e w3 ⟨v2, rfl, hb2, ho2, hn2⟩
    have CU2 := Lib.hid (CU1.out.below hb2)
    clear hb2 q0 q1 q2 q3 r0 r1 r2 r3 t0 t1 t2 t3
    obtain ⟨g2, c2, rfl, hc2, hga, hgb⟩ := ho2.sl hn2
    have OUT := Lib.hid (out_new2 (x := rd) CU2.out ho2)
    obtain ⟨B2, P2, F2, Z2, T2, S2⟩ := CU2.out
    have q0 := F2 0
    have q1 := F2 1
    have q2 := F2 2
    have q3 := F2 3
    have r0 := Z2 0
    have r1 := Z2 1
    have r2 := Z2 2
    have r3 := Z2 3
    have t0 := T2 0
    have t1 := T2 1
    have t2 := T2 2
    have t3 := T2 3
    clear B2 P2 F2 Z2 T2 S2
    have HZ1 : Hid (w.heap.size + 1 < w3.heap.size) := Lib.hid CU2.out.2.2.2.2.2
    have HZ2 : Hid (w3.heap.size ≠ g2) := Lib.hid (by omega)
    have HGA := Lib.hid hga
    go_upto_region 4 with fail
    clear q0 q1 q2 q3 r0 r1 r2 r3 t0 t1 t2 t3 ho2 hn2
    generalize (w3.alloc (.cells #[.int .i64 rd, .slice (some ⟨g2, 0, none⟩) l.length c2, .int .i64 fi, .int .i64 li] 24)) = W5 at *
    obtain ⟨CO, FO, OO, TO⟩ := OUT.out
    have HCO := Lib.hid CO
    have HFO := Lib.hid FO
    have HOO := Lib.hid OO
    have HTO := Lib.hid TO
    clear OUT CO FO OO TO CU2 hga hgb
    generalize w3.heap.size = bb at *
    have o0 := HFO.out 0
    have o1 := HFO.out 1
    have o2 := HFO.out 2
    have o3 := HFO.out 3
    have y0 := HTO.out 0
    have y1 := HTO.out 1
    have y2 := HTO.out 2
    have y3 := HTO.out 3
    obtain ⟨B2, P2, F2, Z2, T2, S2⟩ := HCO.out
    have q0 := F2 0
    have q1 := F2 1
    have q2 := F2 2
    have q3 := F2 3
    have r0 := Z2 0
    have r1 := Z2 1
    have r2 := Z2 2
    have r3 := Z2 3
    have t0 := T2 0
    have t1 := T2 1
    have t2 := T2 2
    have t3 := T2 3
    clear B2 P2 F2 Z2 T2 S2
    have FIN := Lib.hid (fin_cells (rd := rd) (fi := fi) (li := li) HCO.out.1 HCO.out.2.2.2.1 HOO.out CU1.out.2.2.2.2.2 HGA.out)
    go_wp2_with fail
    obtain ⟨B5, F5, O5⟩ := FIN.out
    clear FIN q0 q1 q2 q3 r0 r1 r2 r3 t0 t1 t2 t3 o0 o1 o2 o3 y0 y1 y2 y3
    generalize ((((W5.setCell ⟨w.heap.size + 1, 0, none⟩ (.int .i64 rd)).setCell ⟨w.heap.size + 1, 1, none⟩ (.slice (some ⟨g2, 0, none⟩) l.length c2)).setCell ⟨w.heap.size + 1, 2, none⟩ (.int .i64 fi)).setCell ⟨w.heap.size + 1, 3, none⟩ (.int .i64 li)) = W7 at *
    have s0 := F5 0
    have s1 := F5 1
    have s2 := F5 2
    have s3 := F5 3
    refine bodyPost_ret (v := .tuple #[.agg #[.int .i64 rd, .slice (some ⟨g2, 0, none⟩) l.length c2, .int .i64 fi, .int .i64 li], .bool false]) ?hr rfl ?_
    case hr => rw [results_cell_tmp rfl]; go_simp
    exact ⟨_, rfl, B5, O5, by simp⟩
  refine rgrant_yes (x := n) (b := true) ⟨k1, k2⟩ (by rw [if_neg k3]) (decide_eq_true (by omega)).symm ?_
  have f1 : decide (n < li) = false := decide_eq_false k3
  clear KV KO k1 k2
  go_enter Try.func27, Try.ntmps27
  go_wp2_with fail
  refine (C1.out _ CU.out.1).mono ?_
  rintro e w1 ⟨rfl, hb1⟩
  have CU1 := Lib.hid (CU.out.below hb1)
  clear hb1
  obtain ⟨B2, P2, F2, Z2, T2, S2⟩ := CU1.out
  have q0 := F2 0
  have q1 := F2 1
  have q2 := F2 2
  have q3 := F2 3
  have r0 := Z2 0
  have r1 := Z2 1
  have r2 := Z2 2
  have r3 := Z2 3
  have t0 := T2 0
  have t1 := T2 1
  have t2 := T2 2
  have t3 := T2 3
  clear B2 P2 F2 Z2 T2 S2
  go_wp2_with fail
  refine (C2.out _).mono ?_
  rintro e w2 ⟨rfl, rfl⟩
  go_wp2_with fail
  refine (scopy_any _ l rd fi li _ CU1.out.2.1 hl).mono ?_
  rintro e w3 ⟨v2, rfl, hb2, ho2, hn2⟩
  have CU2 := Lib.hid (CU1.out.below hb2)
  clear hb2 q0 q1 q2 q3 r0 r1 r2 r3 t0 t1 t2 t3
  obtain ⟨g2, c2, rfl, hc2, hga, hgb⟩ := ho2.sl hn2
  have OUT := Lib.hid (out_new2 (x := rd) CU2.out ho2)
  obtain ⟨B2, P2, F2, Z2, T2, S2⟩ := CU2.out
  have q0 := F2 0
  have q1 := F2 1
  have q2 := F2 2
  have q3 := F2 3
  have r0 := Z2 0
  have r1 := Z2 1
  have r2 := Z2 2
  have r3 := Z2 3
  have t0 := T2 0
  have t1 := T2 1
  have t2 := T2 2
  have t3 := T2 3
  clear B2 P2 F2 Z2 T2 S2
  have HZ1 : Hid (w.heap.size + 1 < w3.heap.size) := Lib.hid CU2.out.2.2.2.2.2
  have HZ2 : Hid (w3.heap.size ≠ g2) := Lib.hid (by omega)
  have HGA := Lib.hid hga
  go_upto_region 4 with fail
  clear q0 q1 q2 q3 r0 r1 r2 r3 t0 t1 t2 t3 ho2 hn2
  generalize (w3.alloc (.cells #[.int .i64 rd, .slice (some ⟨g2, 0, none⟩) l.length c2, .int .i64 fi, .int .i64 li] 24)) = W5 at *
  obtain ⟨CO, FO, OO, TO⟩ := OUT.out
  have HCO := Lib.hid CO
  have HFO := Lib.hid FO
  have HOO := Lib.hid OO
  have HTO := Lib.hid TO
  clear OUT CO FO OO TO CU2 hga hgb
  generalize w3.heap.size = bb at *
  have o0 := HFO.out 0
  have o1 := HFO.out 1
  have o2 := HFO.out 2
  have o3 := HFO.out 3
  have y0 := HTO.out 0
  have y1 := HTO.out 1
  have y2 := HTO.out 2
  have y3 := HTO.out 3
  obtain ⟨B2, P2, F2, Z2, T2, S2⟩ := HCO.out
  have q0 := F2 0
  have q1 := F2 1
  have q2 := F2 2
  have q3 := F2 3
  have r0 := Z2 0
  have r1 := Z2 1
  have r2 := Z2 2
  have r3 := Z2 3
  have t0 := T2 0
  have t1 := T2 1
  have t2 := T2 2
  have t3 := T2 3
  clear B2 P2 F2 Z2 T2 S2
  have hbr : bb ≠ w.heap.size + 1 := by have := HZ1.out; omega
  have FO' : Hid (Frm (W5.setCell ⟨bb, 3, none⟩ (.int .i64 n)) bb [.int .i64 rd, .slice (some ⟨g2, 0, none⟩) l.length c2, .int .i64 fi, .int .i64 n]) := Lib.hid (HFO.out.set (i := 3) (by simp) _)
  have Z2' : Hid (Frm (W5.setCell ⟨bb, 3, none⟩ (.int .i64 n)) (w.heap.size + 1) [.int .i64 0, .slice none 0 0, .int .i64 0, .int .i64 0]) := Lib.hid (HCO.out.2.2.2.1.far hbr _)
  have T2' : Hid (Thaw (W5.setCell ⟨bb, 3, none⟩ (.int .i64 n)) (w.heap.size + 1)) := Lib.hid (HCO.out.2.2.2.2.1.set _ _)
  have B2' : Hid (Below w.heap.size w (W5.setCell ⟨bb, 3, none⟩ (.int .i64 n))) := Lib.hid (HCO.out.1.setCell (p := ⟨bb, 3, none⟩) (by have := HZ1.out; show w.heap.size ≤ bb; omega) _)
  have OO' : Hid (OwnPc (W5.setCell ⟨bb, 3, none⟩ (.int .i64 n)) _ (.slice (some ⟨g2, 0, none⟩) l.length c2) l) := Lib.hid (own_far HOO.out (fun x hx => by have hx' : g2 = x := Option.some.inj hx; have := HZ2.out; omega))
  go_upto_region 7 with fail
  clear q0 q1 q2 q3 r0 r1 r2 r3 t0 t1 t2 t3 o0 o1 o2 o3 y0 y1 y2 y3
  generalize (W5.setCell ⟨bb, 3, none⟩ (.int .i64 n)) = W6 at *
  have FIN := Lib.hid (fin_cells (rd := rd) (fi := fi) (li := n) B2'.out Z2'.out OO'.out CU1.out.2.2.2.2.2 HGA.out)
  have o0 := FO'.out 0
  have o1 := FO'.out 1
  have o2 := FO'.out 2
  have o3 := FO'.out 3
  have r0 := Z2'.out 0
  have r1 := Z2'.out 1
  have r2 := Z2'.out 2
  have r3 := Z2'.out 3
  have t0 := T2'.out 0
  have t1 := T2'.out 1
  have t2 := T2'.out 2
  have t3 := T2'.out 3
  go_wp2_with fail
  obtain ⟨B5, F5, O5⟩ := FIN.out
  clear FIN r0 r1 r2 r3 t0 t1 t2 t3 o0 o1 o2 o3
  generalize ((((W6.setCell ⟨w.heap.size + 1, 0, none⟩ (.int .i64 rd)).setCell ⟨w.heap.size + 1, 1, none⟩ (.slice (some ⟨g2, 0, none⟩) l.length c2)).setCell ⟨w.heap.size + 1, 2, none⟩ (.int .i64 fi)).setCell ⟨w.heap.size + 1, 3, none⟩ (.int .i64 n)) = W7 at *
  have s0 := F5 0
  have s1 := F5 1
  have s2 := F5 2
  have s3 := F5 3
  refine bodyPost_ret (v := .tuple #[.agg #[.int .i64 rd, .slice (some ⟨g2, 0, none⟩) l.length c2, .int .i64 fi, .int .i64 n], .bool true]) ?hr rfl ?_
  case hr => rw [results_cell_tmp rfl]; go_simp
  exact ⟨_, rfl, B5, O5, by simp⟩

end Go.Proofs.Ythdhjjbgegcncaa
