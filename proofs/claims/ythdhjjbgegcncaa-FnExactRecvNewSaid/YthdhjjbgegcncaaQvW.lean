/- Chapter 31, the model: RecvPut. -/
import Derived.Test.YthdhjjbgegcncaaQvV
namespace Go.Proofs.Ythdhjjbgegcncaa
open Go.RowKit
set_option linter.unusedVariables false
set_option linter.unusedSimpArgs false

set_option maxRecDepth 100000 in
set_option maxHeartbeats 8000000 in
theorem sput1_any (v : Value) (l : List Pc) (rd fi li off : Int) (f : Nat) (d : ByteArray) (fin : Bool) (w : World) (h : Pcs w v l) (hp : rvok rd l fi li) (he : off = (f : Int)) (h1 : li < off + (d.size : Int)) (h2 : off + (d.size : Int) ≤ 1000000000) :
    Calls Try.prog 37 #[.agg #[.int .i64 rd, v, .int .i64 fi, .int .i64 li], .int .i64 off, .string d, .bool fin] w (PutAns w rd l fi li f d fin) := by
  have HO := Lib.hid hp
  have hl := rvok_len hp
  have HC1 : Hid (1 = pcode rd l fi li f d fin) := Lib.hid (pcode_one (by omega)).symm
  have CU := Lib.hid (Cur.start w (rd := rd) fi li h)
  have hov : off + (d.size : Int) > li := h1
  have hw : IntKind.i64.wrap (off + (d.size : Int)) = off + (d.size : Int) := IntWalk.i64_in _ (by omega)
  obtain ⟨g, o, c, rfl, _, _⟩ := h
  clear hp he
  go_enter Try.func37, Try.ntmps37
  go_wp2_with fail
  refine (scopy_any _ l rd fi li _ CU.out.2.1 (by omega)).mono ?_
  rintro e w2 ⟨v2, rfl, hb2, ho2, hn2⟩
  have CU2 := Lib.hid (CU.out.below hb2)
  clear hb2
  obtain ⟨g2, c2, rfl, hc2, hga, hgb⟩ := ho2.sl hn2
  obtain ⟨B2, P2, F2, Z2, T2, S2⟩ := CU2.out
  have FIN := Lib.hid (fin_cells (rd := rd) (fi := fi) (li := li) B2 Z2 ho2 CU.out.2.2.2.2.2 hga)
  have r0 := Z2 0
  have r1 := Z2 1
  have r2 := Z2 2
  have r3 := Z2 3
  have t0 := T2 0
  have t1 := T2 1
  have t2 := T2 2
  have t3 := T2 3
  clear B2 P2 F2 Z2 T2 S2 ho2 hn2
  go_wp2_with fail
  obtain ⟨B5, F5, O5⟩ := FIN.out
  clear FIN r0 r1 r2 r3 t0 t1 t2 t3
  generalize ((((w2.setCell ⟨w.heap.size + 1, 0, none⟩ (.int .i64 rd)).setCell ⟨w.heap.size + 1, 1, none⟩ (.slice (some ⟨g2, 0, none⟩) l.length c2)).setCell ⟨w.heap.size + 1, 2, none⟩ (.int .i64 fi)).setCell ⟨w.heap.size + 1, 3, none⟩ (.int .i64 li)) = W5 at *
  have s0 := F5 0
  have s1 := F5 1
  have s2 := F5 2
  have s3 := F5 3
  refine bodyPost_ret (v := .tuple #[.agg #[.int .i64 rd, .slice (some ⟨g2, 0, none⟩) l.length c2, .int .i64 fi, .int .i64 li], .int .i64 1]) ?hr rfl ?_
  case hr => rw [results_cell_tmp rfl]; go_simp
  exact ⟨_, l, fi, 1, rfl, HC1.out, B5, O5, by simp, fun h => absurd h (by decide), fun _ => ⟨rfl, rfl⟩⟩

theorem Cur.fin0 {w W : World} {rd fi li : Int} {v : Value} {l : List Pc} (h : Cur w W rd fi li v l) (x0 x1 x2 x3 : Value) :
    Below w.heap.size w ((((W.setCell ⟨w.heap.size + 1, 0, none⟩ x0).setCell ⟨w.heap.size + 1, 1, none⟩ x1).setCell ⟨w.heap.size + 1, 2, none⟩ x2).setCell ⟨w.heap.size + 1, 3, none⟩ x3) ∧
    Frm ((((W.setCell ⟨w.heap.size + 1, 0, none⟩ x0).setCell ⟨w.heap.size + 1, 1, none⟩ x1).setCell ⟨w.heap.size + 1, 2, none⟩ x2).setCell ⟨w.heap.size + 1, 3, none⟩ x3) (w.heap.size + 1) [x0, x1, x2, x3] := by
  obtain ⟨B2, _, _, Z, _, _⟩ := h
  exact ⟨Below.setCell (Below.setCell (Below.setCell (Below.setCell B2 (p := ⟨w.heap.size + 1, 0, none⟩) (Nat.le_succ _) x0) (p := ⟨w.heap.size + 1, 1, none⟩) (Nat.le_succ _) x1) (p := ⟨w.heap.size + 1, 2, none⟩) (Nat.le_succ _) x2) (p := ⟨w.heap.size + 1, 3, none⟩) (Nat.le_succ _) x3,
    (((Z.set (i := 0) (by simp) x0).set (i := 1) (by simp) x1).set (i := 2) (by simp) x2).set (i := 3) (by simp) x3⟩
/-- What RecvPut answers: the empty stream and 4 where something is invalid. -/
def RPutAns (w : World) (rd : Int) (l : List Qc) (fi li off : Int) (d : ByteArray) (fin : Bool) (e : Ending) (w' : World) : Prop :=
  if rvok rd l fi li ∧ (0 ≤ off ∧ off ≤ 30) ∧ d.size ≤ 12 then PutAns w rd l fi li off.toNat d fin e w'
  else e = .returned (.tuple #[.agg #[.int .i64 0, .slice none 0 0, .int .i64 0, .int .i64 0], .int .i64 4]) ∧ Below w.heap.size w w'
theorem rput_no {P : Program} {F : FuncId} {args : Array Value} {w : World} {rd fi li off : Int} {l : List Qc} {d : ByteArray} {fin : Bool} (h : ¬ (rvok rd l fi li ∧ (0 ≤ off ∧ off ≤ 30) ∧ d.size ≤ 12))
    (hc : Calls P F args w fun e w' => e = .returned (.tuple #[.agg #[.int .i64 0, .slice none 0 0, .int .i64 0, .int .i64 0], .int .i64 4]) ∧ Below w.heap.size w w') : Calls P F args w (RPutAns w rd l fi li off d fin) :=
  hc.mono fun e w' k => by unfold RPutAns; rw [if_neg h]; exact k
theorem rput_yes {P : Program} {F : FuncId} {args : Array Value} {w : World} {rd fi li off : Int} {l : List Qc} {d : ByteArray} {fin : Bool} (h : rvok rd l fi li ∧ (0 ≤ off ∧ off ≤ 30) ∧ d.size ≤ 12)
    (hc : Calls P F args w (PutAns w rd l fi li off.toNat d fin)) : Calls P F args w (RPutAns w rd l fi li off d fin) :=
  hc.mono fun e w' k => by unfold RPutAns; rw [if_pos h]; exact k
theorem l31put_any (v : Value) (l : List Pc) (rd fi li : Int) (f : Nat) (d : ByteArray) (fin : Bool) (B0 : Nat) (w : World) (ho : OwnPc w B0 v l) (hv : v ≠ .slice none 0 0) (hp : rvok rd l fi li) (h2 : (f : Int) + (d.size : Int) ≤ 1000000000) :
    Calls Try.prog 37 #[.agg #[.int .i64 rd, v, .int .i64 fi, .int .i64 li], .int .i64 (f : Int), .string d, .bool fin] w (PutAns w rd l fi li f d fin) := by
  by_cases h : (f : Int) + (d.size : Int) ≤ li
  · exact sputf_any v l rd fi li _ f d fin B0 w ho hv hp rfl h
  · exact sput1_any v l rd fi li _ f d fin w (Pcs.of_own ho hv) hp rfl (by omega) h2
set_option maxRecDepth 100000 in
set_option maxHeartbeats 8000000 in
theorem srecvput_any (v : Value) (l : List Pc) (rd fi li off : Int) (d : ByteArray) (fin : Bool) (B0 : Nat) (w : World) (ho : OwnPc w B0 v l) (hv : v ≠ .slice none 0 0) (hl : l.length ≤ 2000000) (hsz : ∀ p ∈ l, p.2.size ≤ 2000000) (hd : d.size ≤ 2000000) :
    Calls Try.prog 19 #[.agg #[.int .i64 rd, v, .int .i64 fi, .int .i64 li], .int .i64 off, .string d, .bool fin] w (RPutAns w rd l fi li off d fin) := by
  have h := Pcs.of_own ho hv
  have HP := Lib.hid h
  have HO := Lib.hid ho
  have HSZ := Lib.hid hsz
  obtain ⟨g, c, rfl, hlc, hgB, hgw0⟩ := ho.sl hv
  have CU := Lib.hid (Cur.start w (rd := rd) fi li h)
  clear hsz ho h hv
  have KV : ∀ b : Bool, decide (rvok rd l fi li) = b → Hid (∀ W : World, Below w.heap.size w W → Calls Try.prog 16 #[.agg #[.int .i64 rd, .slice (some ⟨g, 0, none⟩) l.length c, .int .i64 fi, .int .i64 li]] W fun e w' => e = .returned (.bool b) ∧ Below W.heap.size W w') := fun b hb => Lib.hid fun W hW => by have k := srvval_any _ l rd fi li W (Pcs.below HP.out hW) hl HSZ.out; rw [hb] at k; exact k
  have KO : ∀ b : Bool, decide (0 ≤ off ∧ off ≤ 30) = b → Hid (∀ W : World, Calls Try.prog 29 #[.int .i64 off, .int .i64 0, .int .i64 30] W fun e w' => e = .returned (.bool b) ∧ W = w') := fun b hb => Lib.hid fun W => by have k := l6In_any off 0 30 W; rw [hb] at k; exact k
  by_cases k1 : rvok rd l fi li
  case neg =>
    have C1 := KV false (decide_eq_false k1)
    have HF : Hid (¬ (rvok rd l fi li ∧ (0 ≤ off ∧ off ≤ 30) ∧ d.size ≤ 12)) := Lib.hid (fun h => k1 h.1)
    refine rput_no HF.out ?_
    clear KV KO k1
    go_enter Try.func19, Try.ntmps19
    go_wp2_with fail
    refine (C1.out _ CU.out.1).mono ?_
    rintro e w1 ⟨rfl, hb1⟩
    have CU1 := Lib.hid (CU.out.below hb1)
    clear hb1
    obtain ⟨B2, P2, F2, Z2, T2, S2⟩ := CU1.out
    have q0 := F2 0
    have q1 := F2 1
    have q2 := F2 2
    have q3 := F2 3
    have r0 := Z2 0
    have r1 := Z2 1
    have r2 := Z2 2
    have r3 := Z2 3
    have t0 := T2 0
    have t1 := T2 1
    have t2 := T2 2
    have t3 := T2 3
    clear B2 P2 F2 Z2 T2 S2
    go_wp2_with fail
    obtain ⟨B5, F5⟩ := CU1.out.fin0 (.int .i64 0) (.slice none 0 0) (.int .i64 0) (.int .i64 0)
    clear q0 q1 q2 q3 r0 r1 r2 r3 t0 t1 t2 t3
    generalize ((((w1.setCell ⟨w.heap.size + 1, 0, none⟩ (.int .i64 0)).setCell ⟨w.heap.size + 1, 1, none⟩ (.slice none 0 0)).setCell ⟨w.heap.size + 1, 2, none⟩ (.int .i64 0)).setCell ⟨w.heap.size + 1, 3, none⟩ (.int .i64 0)) = W5 at *
    have s0 := F5 0
    have s1 := F5 1
    have s2 := F5 2
    have s3 := F5 3
    refine bodyPost_ret (v := .tuple #[.agg #[.int .i64 0, .slice none 0 0, .int .i64 0, .int .i64 0], .int .i64 4]) ?hr rfl ?_
    case hr => rw [results_cell_tmp rfl]; go_simp
    exact ⟨rfl, B5⟩
  have C1 := KV true (decide_eq_true k1)
  have K1 := Lib.hid k1
  by_cases k2 : 0 ≤ off ∧ off ≤ 30
  case neg =>
    have C2 := KO false (decide_eq_false k2)
    have HF : Hid (¬ (rvok rd l fi li ∧ (0 ≤ off ∧ off ≤ 30) ∧ d.size ≤ 12)) := Lib.hid (fun h => k2 h.2.1)
    refine rput_no HF.out ?_
    clear KV KO k1 k2
    go_enter Try.func19, Try.ntmps19
    go_wp2_with fail
    refine (C1.out _ CU.out.1).mono ?_
    rintro e w1 ⟨rfl, hb1⟩
    have CU1 := Lib.hid (CU.out.below hb1)
    clear hb1
    obtain ⟨B2, P2, F2, Z2, T2, S2⟩ := CU1.out
    have q0 := F2 0
    have q1 := F2 1
    have q2 := F2 2
    have q3 := F2 3
    have r0 := Z2 0
    have r1 := Z2 1
    have r2 := Z2 2
    have r3 := Z2 3
    have t0 := T2 0
    have t1 := T2 1
    have t2 := T2 2
    have t3 := T2 3
    clear B2 P2 F2 Z2 T2 S2
    go_wp2_with fail
    refine (C2.out _).mono ?_
    rintro e w2 ⟨rfl, rfl⟩
    go_wp2_with fail
    obtain ⟨B5, F5⟩ := CU1.out.fin0 (.int .i64 0) (.slice none 0 0) (.int .i64 0) (.int .i64 0)
    clear q0 q1 q2 q3 r0 r1 r2 r3 t0 t1 t2 t3
    generalize ((((w1.setCell ⟨w.heap.size + 1, 0, none⟩ (.int .i64 0)).setCell ⟨w.heap.size + 1, 1, none⟩ (.slice none 0 0)).setCell ⟨w.heap.size + 1, 2, none⟩ (.int .i64 0)).setCell ⟨w.heap.size + 1, 3, none⟩ (.int .i64 0)) = W5 at *
    have s0 := F5 0
    have s1 := F5 1
    have s2 := F5 2
    have s3 := F5 3
    refine bodyPost_ret (v := .tuple #[.agg #[.int .i64 0, .slice none 0 0, .int .i64 0, .int .i64 0], .int .i64 4]) ?hr rfl ?_
    case hr => rw [results_cell_tmp rfl]; go_simp
    exact ⟨rfl, B5⟩
  have C2 := KO true (decide_eq_true k2)
  by_cases k3 : d.size ≤ 12
  case neg =>
    have HF : Hid (¬ (rvok rd l fi li ∧ (0 ≤ off ∧ off ≤ 30) ∧ d.size ≤ 12)) := Lib.hid (fun h => k3 h.2.2)
    refine rput_no HF.out ?_
    have f1 : decide ((12 : Int) < (d.size : Int)) = true := decide_eq_true (by omega)
    have f2 : decide ((d.size : Int) > 12) = true := decide_eq_true (by omega)
    have f3 : (12 : Int) < (d.size : Int) := by omega
    clear KV KO k1
    go_enter Try.func19, Try.ntmps19
    go_wp2_with fail
    refine (C1.out _ CU.out.1).mono ?_
    rintro e w1 ⟨rfl, hb1⟩
    have CU1 := Lib.hid (CU.out.below hb1)
    clear hb1
    obtain ⟨B2, P2, F2, Z2, T2, S2⟩ := CU1.out
    have q0 := F2 0
    have q1 := F2 1
    have q2 := F2 2
    have q3 := F2 3
    have r0 := Z2 0
    have r1 := Z2 1
    have r2 := Z2 2
    have r3 := Z2 3
    have t0 := T2 0
    have t1 := T2 1
    have t2 := T2 2
    have t3 := T2 3
    clear B2 P2 F2 Z2 T2 S2
    go_wp2_with fail
    refine (C2.out _).mono ?_
    rintro e w2 ⟨rfl, rfl⟩
    go_wp2_with fail
    obtain ⟨B5, F5⟩ := CU1.out.fin0 (.int .i64 0) (.slice none 0 0) (.int .i64 0) (.int .i64 0)
    clear q0 q1 q2 q3 r0 r1 r2 r3 t0 t1 t2 t3
    generalize ((((w1.setCell ⟨w.heap.size + 1, 0, none⟩ (.int .i64 0)).setCell ⟨w.heap.size + 1, 1, none⟩ (.slice none 0 0)).setCell ⟨w.heap.size + 1, 2, none⟩ (.int .i64 0)).setCell ⟨w.heap.size + 1, 3, none⟩ (.int .i64 0)) = W5 at *
    have s0 := F5 0
    have s1 := F5 1
    have s2 := F5 2
    have s3 := F5 3
    refine bodyPost_ret (v := .tuple #[.agg #[.int .i64 0, .slice none 0 0, .int .i64 0, .int .i64 0], .int .i64 4]) ?hr rfl ?_
    case hr => rw [results_cell_tmp rfl]; go_simp
    exact ⟨rfl, B5⟩
  refine rput_yes ⟨k1, k2, k3⟩ ?_
  obtain ⟨f, rfl⟩ := Int.eq_ofNat_of_zero_le k2.1
  rw [show ((f : Int)).toNat = f from rfl]
  have f1 : decide ((12 : Int) < (d.size : Int)) = false := decide_eq_false (by omega)
  have f2 : decide ((d.size : Int) > 12) = false := decide_eq_false (by omega)
  have f3 : ¬ (12 : Int) < (d.size : Int) := by omega
  have HB : Hid ((f : Int) + (d.size : Int) ≤ 1000000000) := Lib.hid (by omega)
  clear KV KO k1 k2 k3
  go_enter Try.func19, Try.ntmps19
  go_wp2_with fail
  refine (C1.out _ CU.out.1).mono ?_
  rintro e w1 ⟨rfl, hb1⟩
  have CU1 := Lib.hid (CU.out.below hb1)
  clear hb1
  obtain ⟨B2, P2, F2, Z2, T2, S2⟩ := CU1.out
  have q0 := F2 0
  have q1 := F2 1
  have q2 := F2 2
  have q3 := F2 3
  have r0 := Z2 0
  have r1 := Z2 1
  have r2 := Z2 2
  have r3 := Z2 3
  have t0 := T2 0
  have t1 := T2 1
  have t2 := T2 2
  have t3 := T2 3
  clear B2 P2 F2 Z2 T2 S2
  go_wp2_with fail
  refine (C2.out _).mono ?_
  rintro e w2 ⟨rfl, rfl⟩
  go_wp2_with fail
  refine (l31put_any _ l rd fi li f d fin B0 _ (HO.out.below (CU1.out.1)) (by simp) K1.out HB.out).mono ?_
  rintro e w3 ⟨v2, l2, fi2, cc, rfl, hcc, hb2, ho2, hn2, hpu, hsa⟩
  have HCC := Lib.hid hcc
  have HPU := Lib.hid hpu
  have HSA := Lib.hid hsa
  clear hcc hpu hsa
  have CU2 := Lib.hid (CU1.out.below hb2)
  clear hb2 q0 q1 q2 q3 r0 r1 r2 r3 t0 t1 t2 t3
  obtain ⟨g2, c2, rfl, hc2, hga, hgb⟩ := ho2.sl hn2
  obtain ⟨B2, P2, F2, Z2, T2, S2⟩ := CU2.out
  have FIN := Lib.hid (fin_cells (rd := rd) (fi := fi2) (li := li) B2 Z2 ho2 CU1.out.2.2.2.2.2 hga)
  have r0 := Z2 0
  have r1 := Z2 1
  have r2 := Z2 2
  have r3 := Z2 3
  have t0 := T2 0
  have t1 := T2 1
  have t2 := T2 2
  have t3 := T2 3
  clear B2 P2 F2 Z2 T2 S2 ho2 hn2
  go_wp2_with fail
  obtain ⟨B5, F5, O5⟩ := FIN.out
  clear FIN r0 r1 r2 r3 t0 t1 t2 t3
  generalize ((((w3.setCell ⟨w.heap.size + 1, 0, none⟩ (.int .i64 (rd))).setCell ⟨w.heap.size + 1, 1, none⟩ (.slice (some ⟨g2, 0, none⟩) l2.length c2)).setCell ⟨w.heap.size + 1, 2, none⟩ (.int .i64 fi2)).setCell ⟨w.heap.size + 1, 3, none⟩ (.int .i64 li)) = W5 at *
  have s0 := F5 0
  have s1 := F5 1
  have s2 := F5 2
  have s3 := F5 3
  refine bodyPost_ret (v := .tuple #[.agg #[.int .i64 (rd), .slice (some ⟨g2, 0, none⟩) l2.length c2, .int .i64 fi2, .int .i64 li], .int .i64 cc]) ?hr rfl ?_
  case hr => rw [results_cell_tmp rfl]; go_simp
  exact ⟨_, l2, fi2, cc, rfl, HCC.out, B5, O5, by simp, HPU.out, HSA.out⟩

end Go.Proofs.Ythdhjjbgegcncaa
