/- Chapter 31, the model: l31Put. -/
import Derived.Test.YtifohfclgonhfaaRvE
import Derived.Deep.DeepCutAuto
namespace Go.Proofs.Ytifohfclgonhfaa
open Go.RowKit
set_option linter.unusedVariables false
set_option linter.unusedSimpArgs false

theorem out_set2 {w W : World} {rd fi li x : Int} {g n c b gb nb cb B : Nat} {l lb : List Pc} (h : Cur w W rd fi li (.slice (some ⟨g, 0, none⟩) n c) l) (hb : b ≠ g) (hb1 : w.heap.size + 1 < b)
    (FZ : Frm W b [.int .i64 0, .slice none 0 0, .int .i64 0, .int .i64 0]) (TZ : Thaw W b) (O : OwnPc W B (.slice (some ⟨gb, 0, none⟩) nb cb) lb) (hgb : b ≠ gb) :
    Cur w ((((W.setCell ⟨b, 0, none⟩ (.int .i64 x)).setCell ⟨b, 1, none⟩ (.slice (some ⟨gb, 0, none⟩) nb cb)).setCell ⟨b, 2, none⟩ (.int .i64 fi)).setCell ⟨b, 3, none⟩ (.int .i64 li)) rd fi li (.slice (some ⟨g, 0, none⟩) n c) l ∧
    Frm ((((W.setCell ⟨b, 0, none⟩ (.int .i64 x)).setCell ⟨b, 1, none⟩ (.slice (some ⟨gb, 0, none⟩) nb cb)).setCell ⟨b, 2, none⟩ (.int .i64 fi)).setCell ⟨b, 3, none⟩ (.int .i64 li)) b [.int .i64 x, .slice (some ⟨gb, 0, none⟩) nb cb, .int .i64 fi, .int .i64 li] ∧
    OwnPc ((((W.setCell ⟨b, 0, none⟩ (.int .i64 x)).setCell ⟨b, 1, none⟩ (.slice (some ⟨gb, 0, none⟩) nb cb)).setCell ⟨b, 2, none⟩ (.int .i64 fi)).setCell ⟨b, 3, none⟩ (.int .i64 li)) B (.slice (some ⟨gb, 0, none⟩) nb cb) lb ∧
    Thaw ((((W.setCell ⟨b, 0, none⟩ (.int .i64 x)).setCell ⟨b, 1, none⟩ (.slice (some ⟨gb, 0, none⟩) nb cb)).setCell ⟨b, 2, none⟩ (.int .i64 fi)).setCell ⟨b, 3, none⟩ (.int .i64 li)) b := by
  obtain ⟨h1, h2, h3⟩ := out_set (x := x) h hb hb1 FZ O hgb
  exact ⟨h1, h2, h3, (((TZ.set _ _).set _ _).set _ _).set _ _⟩
theorem out_new2 {w W : World} {rd fi li x : Int} {g n c gb nb cb B : Nat} {l lb : List Pc} (h : Cur w W rd fi li (.slice (some ⟨g, 0, none⟩) n c) l) (O : OwnPc W B (.slice (some ⟨gb, 0, none⟩) nb cb) lb) :
    Cur w (W.alloc (.cells #[.int .i64 x, .slice (some ⟨gb, 0, none⟩) nb cb, .int .i64 fi, .int .i64 li] 47)) rd fi li (.slice (some ⟨g, 0, none⟩) n c) l ∧
    Frm (W.alloc (.cells #[.int .i64 x, .slice (some ⟨gb, 0, none⟩) nb cb, .int .i64 fi, .int .i64 li] 47)) W.heap.size [.int .i64 x, .slice (some ⟨gb, 0, none⟩) nb cb, .int .i64 fi, .int .i64 li] ∧
    OwnPc (W.alloc (.cells #[.int .i64 x, .slice (some ⟨gb, 0, none⟩) nb cb, .int .i64 fi, .int .i64 li] 47)) B (.slice (some ⟨gb, 0, none⟩) nb cb) lb ∧
    Thaw (W.alloc (.cells #[.int .i64 x, .slice (some ⟨gb, 0, none⟩) nb cb, .int .i64 fi, .int .i64 li] 47)) W.heap.size := by
  obtain ⟨h1, h2, h3⟩ := out_new (x := x) h O
  exact ⟨h1, h2, h3, Thaw.new W 47 [.int .i64 x, .slice (some ⟨gb, 0, none⟩) nb cb, .int .i64 fi, .int .i64 li]⟩

set_option maxRecDepth 100000 in
set_option maxHeartbeats 8000000 in
theorem sput_any (v : Value) (l : List Pc) (rd fi li off : Int) (d : ByteArray) (fin : Bool) (B0 : Nat) (w : World) (ho : OwnPc w B0 v l) (hv : v ≠ .slice none 0 0) (hp : RvOk rd li l) (h0 : 0 ≤ off) (h1 : off + (d.size : Int) ≤ li) :
    Calls Try.prog 75 #[.agg #[.int .i64 rd, v, .int .i64 fi, .int .i64 li], .int .i64 off, .string d, .bool fin] w (RvAns w (fun y => ∃ x : Int, y = .int .i64 x)) := by
  have h := Pcs.of_own ho hv
  have HP := Lib.hid h
  have HO := Lib.hid hp
  obtain ⟨r0, r1, l0, l1, hpo, hl⟩ := hp
  have hpo0 : POk 0 l := fun p hpp => ⟨by have := hpo p hpp; omega, (hpo p hpp).2⟩
  have HP0 := Lib.hid hpo0
  have HPO := Lib.hid hpo
  clear hpo hpo0
  obtain ⟨g, c, rfl, hlc, hgB, hgw0⟩ := ho.sl hv
  have CU := Lib.hid (Cur.start w (rd := rd) fi li h)
  have HGW := Lib.hid hgw0
  clear h hlc hgB ho hv hgw0
  have hd : d.size ≤ 30 := by omega
  have hw : IntKind.i64.wrap (off + (d.size : Int)) = off + (d.size : Int) := IntWalk.i64_in _ (by omega)
  have hov : ¬ off + (d.size : Int) > li := by omega
  have hov2 : ¬ li < off + (d.size : Int) := by omega
  go_enter Try.func75, Try.ntmps75
  go_upto_block 0 with fail
  generalize hW1 : ((w.alloc (.cells #[.int .i64 rd, .slice (some ⟨g, 0, none⟩) l.length c, .int .i64 fi, .int .i64 li] 47)).alloc (.cells #[.int .i64 0, .slice none 0 0, .int .i64 0, .int .i64 0] 47)) = W1 at *
  clear hW1
  have q0 := CU.out.2.2.1 0
  have q1 := CU.out.2.2.1 1
  have q2 := CU.out.2.2.1 2
  have q3 := CU.out.2.2.1 3
  go_cut [] (fun wx => Hid (Cur w wx rd fi li (.slice (some ⟨g, 0, none⟩) l.length c) l))
  case first =>
    cases fin with
    | true =>
      by_cases hf : 0 ≤ fi
      · have hf' : fi ≥ 0 := hf
        by_cases hne : fi = off + (d.size : Int)
        · have hb : (fi != off + (d.size : Int)) = false := by simp [hne]
          have hb2 : (fi == off + (d.size : Int)) = true := by simp [hne]
          clear hne
          go_wp2_with fail
          refine (send_any _ l rd fi li _ CU.out.2.1 HP0.out (by omega)).mono ?_
          rintro e w2 ⟨x, rfl, hb2⟩
          have CU1 := Lib.hid (CU.out.below hb2)
          clear hb2 q0 q1 q2 q3
          have q0 := CU1.out.2.2.1 0
          have q1 := CU1.out.2.2.1 1
          have q2 := CU1.out.2.2.1 2
          have q3 := CU1.out.2.2.1 3
          by_cases hxe : x > off + (d.size : Int)
          · have hxe2 : off + (d.size : Int) < x := hxe
            go_wp2_with fail
            refine (scopy_any _ l rd fi li _ CU1.out.2.1 (by omega)).mono ?_
            rintro e w2 ⟨v2, rfl, hb2, ho2, hn2⟩
            have CU2 := Lib.hid (CU1.out.below hb2)
            clear hb2
            obtain ⟨g2, c2, rfl, hc2, hga, hgb⟩ := ho2.sl hn2
            obtain ⟨B2, P2, F2, Z2, T2, S2⟩ := CU2.out
            have FIN := Lib.hid (fin_cells (rd := rd) (fi := fi) (li := li) B2 Z2 ho2 CU1.out.2.2.2.2.2 hga)
            have r0 := Z2 0
            have r1 := Z2 1
            have r2 := Z2 2
            have r3 := Z2 3
            have t0 := T2 0
            have t1 := T2 1
            have t2 := T2 2
            have t3 := T2 3
            clear B2 P2 F2 Z2 T2 S2 ho2 hn2
            go_wp2_with fail
            obtain ⟨B5, F5, O5⟩ := FIN.out
            clear FIN r0 r1 r2 r3 t0 t1 t2 t3
            generalize ((((w2.setCell ⟨w.heap.size + 1, 0, none⟩ (.int .i64 rd)).setCell ⟨w.heap.size + 1, 1, none⟩ (.slice (some ⟨g2, 0, none⟩) l.length c2)).setCell ⟨w.heap.size + 1, 2, none⟩ (.int .i64 fi)).setCell ⟨w.heap.size + 1, 3, none⟩ (.int .i64 li)) = W5 at *
            have s0 := F5 0
            have s1 := F5 1
            have s2 := F5 2
            have s3 := F5 3
            refine bodyPost_ret (v := .tuple #[.agg #[.int .i64 rd, .slice (some ⟨g2, 0, none⟩) l.length c2, .int .i64 fi, .int .i64 li], .int .i64 2]) ?hr rfl ?_
            case hr => rw [results_cell_tmp rfl]; go_simp
            exact ⟨rd, fi, li, _, _, _, rfl, ⟨_, rfl⟩, B5, O5, by simp, HO.out⟩

          · have hxe2 : ¬ off + (d.size : Int) < x := hxe
            go_wp2_with fail
            go_meet
            exact CU1
        · have hb : (fi != off + (d.size : Int)) = true := by simp [hne]
          have hb2 : (fi == off + (d.size : Int)) = false := by simp [hne]
          clear hne
          go_wp2_with fail
          refine (scopy_any _ l rd fi li _ CU.out.2.1 (by omega)).mono ?_
          rintro e w2 ⟨v2, rfl, hb2, ho2, hn2⟩
          have CU2 := Lib.hid (CU.out.below hb2)
          clear hb2
          obtain ⟨g2, c2, rfl, hc2, hga, hgb⟩ := ho2.sl hn2
          obtain ⟨B2, P2, F2, Z2, T2, S2⟩ := CU2.out
          have FIN := Lib.hid (fin_cells (rd := rd) (fi := fi) (li := li) B2 Z2 ho2 CU.out.2.2.2.2.2 hga)
          have r0 := Z2 0
          have r1 := Z2 1
          have r2 := Z2 2
          have r3 := Z2 3
          have t0 := T2 0
          have t1 := T2 1
          have t2 := T2 2
          have t3 := T2 3
          clear B2 P2 F2 Z2 T2 S2 ho2 hn2
          go_wp2_with fail
          obtain ⟨B5, F5, O5⟩ := FIN.out
          clear FIN r0 r1 r2 r3 t0 t1 t2 t3
          generalize ((((w2.setCell ⟨w.heap.size + 1, 0, none⟩ (.int .i64 rd)).setCell ⟨w.heap.size + 1, 1, none⟩ (.slice (some ⟨g2, 0, none⟩) l.length c2)).setCell ⟨w.heap.size + 1, 2, none⟩ (.int .i64 fi)).setCell ⟨w.heap.size + 1, 3, none⟩ (.int .i64 li)) = W5 at *
          have s0 := F5 0
          have s1 := F5 1
          have s2 := F5 2
          have s3 := F5 3
          refine bodyPost_ret (v := .tuple #[.agg #[.int .i64 rd, .slice (some ⟨g2, 0, none⟩) l.length c2, .int .i64 fi, .int .i64 li], .int .i64 2]) ?hr rfl ?_
          case hr => rw [results_cell_tmp rfl]; go_simp
          exact ⟨rd, fi, li, _, _, _, rfl, ⟨_, rfl⟩, B5, O5, by simp, HO.out⟩

      · have hf' : ¬ fi ≥ 0 := hf
        go_wp2_with fail
        refine (send_any _ l rd fi li _ CU.out.2.1 HP0.out (by omega)).mono ?_
        rintro e w2 ⟨x, rfl, hb2⟩
        have CU1 := Lib.hid (CU.out.below hb2)
        clear hb2 q0 q1 q2 q3
        have q0 := CU1.out.2.2.1 0
        have q1 := CU1.out.2.2.1 1
        have q2 := CU1.out.2.2.1 2
        have q3 := CU1.out.2.2.1 3
        by_cases hxe : x > off + (d.size : Int)
        · have hxe2 : off + (d.size : Int) < x := hxe
          go_wp2_with fail
          refine (scopy_any _ l rd fi li _ CU1.out.2.1 (by omega)).mono ?_
          rintro e w2 ⟨v2, rfl, hb2, ho2, hn2⟩
          have CU2 := Lib.hid (CU1.out.below hb2)
          clear hb2
          obtain ⟨g2, c2, rfl, hc2, hga, hgb⟩ := ho2.sl hn2
          obtain ⟨B2, P2, F2, Z2, T2, S2⟩ := CU2.out
          have FIN := Lib.hid (fin_cells (rd := rd) (fi := fi) (li := li) B2 Z2 ho2 CU1.out.2.2.2.2.2 hga)
          have r0 := Z2 0
          have r1 := Z2 1
          have r2 := Z2 2
          have r3 := Z2 3
          have t0 := T2 0
          have t1 := T2 1
          have t2 := T2 2
          have t3 := T2 3
          clear B2 P2 F2 Z2 T2 S2 ho2 hn2
          go_wp2_with fail
          obtain ⟨B5, F5, O5⟩ := FIN.out
          clear FIN r0 r1 r2 r3 t0 t1 t2 t3
          generalize ((((w2.setCell ⟨w.heap.size + 1, 0, none⟩ (.int .i64 rd)).setCell ⟨w.heap.size + 1, 1, none⟩ (.slice (some ⟨g2, 0, none⟩) l.length c2)).setCell ⟨w.heap.size + 1, 2, none⟩ (.int .i64 fi)).setCell ⟨w.heap.size + 1, 3, none⟩ (.int .i64 li)) = W5 at *
          have s0 := F5 0
          have s1 := F5 1
          have s2 := F5 2
          have s3 := F5 3
          refine bodyPost_ret (v := .tuple #[.agg #[.int .i64 rd, .slice (some ⟨g2, 0, none⟩) l.length c2, .int .i64 fi, .int .i64 li], .int .i64 2]) ?hr rfl ?_
          case hr => rw [results_cell_tmp rfl]; go_simp
          exact ⟨rd, fi, li, _, _, _, rfl, ⟨_, rfl⟩, B5, O5, by simp, HO.out⟩

        · have hxe2 : ¬ off + (d.size : Int) < x := hxe
          go_wp2_with fail
          go_meet
          exact CU1
    | false =>
      by_cases hf : 0 ≤ fi
      · have hf' : fi ≥ 0 := hf
        by_cases hxe : off + (d.size : Int) > fi
        · have hxe2 : fi < off + (d.size : Int) := hxe
          go_wp2_with fail
          refine (scopy_any _ l rd fi li _ CU.out.2.1 (by omega)).mono ?_
          rintro e w2 ⟨v2, rfl, hb2, ho2, hn2⟩
          have CU2 := Lib.hid (CU.out.below hb2)
          clear hb2
          obtain ⟨g2, c2, rfl, hc2, hga, hgb⟩ := ho2.sl hn2
          obtain ⟨B2, P2, F2, Z2, T2, S2⟩ := CU2.out
          have FIN := Lib.hid (fin_cells (rd := rd) (fi := fi) (li := li) B2 Z2 ho2 CU.out.2.2.2.2.2 hga)
          have r0 := Z2 0
          have r1 := Z2 1
          have r2 := Z2 2
          have r3 := Z2 3
          have t0 := T2 0
          have t1 := T2 1
          have t2 := T2 2
          have t3 := T2 3
          clear B2 P2 F2 Z2 T2 S2 ho2 hn2
          go_wp2_with fail
          obtain ⟨B5, F5, O5⟩ := FIN.out
          clear FIN r0 r1 r2 r3 t0 t1 t2 t3
          generalize ((((w2.setCell ⟨w.heap.size + 1, 0, none⟩ (.int .i64 rd)).setCell ⟨w.heap.size + 1, 1, none⟩ (.slice (some ⟨g2, 0, none⟩) l.length c2)).setCell ⟨w.heap.size + 1, 2, none⟩ (.int .i64 fi)).setCell ⟨w.heap.size + 1, 3, none⟩ (.int .i64 li)) = W5 at *
          have s0 := F5 0
          have s1 := F5 1
          have s2 := F5 2
          have s3 := F5 3
          refine bodyPost_ret (v := .tuple #[.agg #[.int .i64 rd, .slice (some ⟨g2, 0, none⟩) l.length c2, .int .i64 fi, .int .i64 li], .int .i64 2]) ?hr rfl ?_
          case hr => rw [results_cell_tmp rfl]; go_simp
          exact ⟨rd, fi, li, _, _, _, rfl, ⟨_, rfl⟩, B5, O5, by simp, HO.out⟩

        · have hxe2 : ¬ fi < off + (d.size : Int) := hxe
          go_wp2_with fail
          go_meet
          exact CU
      · have hf' : ¬ fi ≥ 0 := hf
        go_wp2_with fail
        go_meet
        exact CU
  case rest =>
    obtain ⟨f, rfl⟩ := Int.eq_ofNat_of_zero_le h0
    clear q0 q1 q2 q3
    have CU1 : Hid (Cur w wc rd fi li (.slice (some ⟨g, 0, none⟩) l.length c) l) := Lib.hid hcut.out
    have PC1 : Hid (Pcs wc (.slice (some ⟨g, 0, none⟩) l.length c) l) := Lib.hid hcut.out.2.1
    have q0 := CU1.out.2.2.1 0
    have q1 := CU1.out.2.2.1 1
    have q2 := CU1.out.2.2.1 2
    have q3 := CU1.out.2.2.1 3
    clear hcut
    clear hov hov2
    go_wp2_with fail
    refine (sbytes_any _ l rd fi li _ PC1.out HP0.out (by omega)).mono ?_
    rintro e wa ⟨ga, rfl, hba, hra⟩
    have CUa := Lib.hid (CU1.out.below hba)
    have HR0 := Lib.hid hra
    have hga0 := hra.at 0 (by omega)
    have hgg : ga ≠ g := by have := HGW.out; have := CU1.out.1.size; have := hga0.2.2; omega
    have hgw : w.heap.size + 1 < ga := by have := hga0.2.2; have := CU1.out.2.2.2.2.2; omega
    clear q0 q1 q2 q3 hba hra hga0
    go_wp2_with fail
    go_loopw [12] (fun iv wr => ∃ j : Nat, j ≤ d.size ∧ iv = .int .i64 (j : Int) ∧ Hid (Cur w wr rd fi li (.slice (some ⟨g, 0, none⟩) l.length c) l) ∧ Hid (Row30 wr wc.heap.size (.slice (some ⟨ga, 0, none⟩) 30 30))) (fun iv _ => d.size - (intOf iv).toNat)
    case atStart => exact ⟨0, Nat.zero_le _, rfl, CUa, HR0⟩
    case round =>
      clear CUa HR0 CU1 PC1
      obtain ⟨j, hj, rfl, CU, HR⟩ := hrel
      by_cases hlt : j < d.size
      · have hlt' : (j : Int) < (d.size : Int) := by omega
        obtain ⟨p, hp⟩ : ∃ p : Nat, f + j = p := ⟨_, rfl⟩
        have hp30 : p < 30 := by omega
        have hp30' : (p : Int) < 30 := by omega
        have hp0 : (0 : Int) ≤ (p : Int) := by omega
        have hw1 : IntKind.i64.wrap ((f : Int) + (j : Int)) = (p : Int) := by rw [show (f : Int) + (j : Int) = (p : Int) by omega]; exact IntWalk.i64_in _ (by omega)
        obtain ⟨⟨x, hc1⟩, hf1, _⟩ := HR.out.at p hp30
        clear hp
        have q0 := CU.out.2.2.1 0
        have q1 := CU.out.2.2.1 1
        have q2 := CU.out.2.2.1 2
        have q3 := CU.out.2.2.1 3
        have CUn := fun n => Lib.hid (CU.out.drew n)
        have CUs := fun n y => Lib.hid ((CU.out.drew n).set (b := ga) (i := p) (u := y) hgg hgw)
        have HRn := fun n => Lib.hid (HR.out.drew n)
        have HRs := fun n y => Lib.hid ((HR.out.drew n).set p y)
        have CUS := Lib.hid CUs
        have HRS := Lib.hid HRs
        have CUN := Lib.hid CUn
        have HRN := Lib.hid HRn
        clear CUs HRs CUn HRn
        by_cases hrp : rd ≤ (p : Int)
        · have hrp2 : (p : Int) ≥ rd := hrp
          by_cases hx : 0 ≤ x
          · have hx2 : x ≥ 0 := hx
            have hdx : decide (x ≥ 0) = true := decide_eq_true hx
            have hdx2 : decide (0 ≤ x) = true := decide_eq_true hx
            go_wp2_with fail
            go_quiet (fail)
            go_wp2_with fail
            · have CU1 : Hid (Cur w (wr.drewN nq) rd fi li (.slice (some ⟨g, 0, none⟩) l.length c) l) := CUN.out nq
              clear q0 q1 q2 q3 hc1 hf1
              refine (scopy_any _ l rd fi li _ CU1.out.2.1 (by omega)).mono ?_
              rintro e w2 ⟨v2, rfl, hb2, ho2, hn2⟩
              have CU2 := Lib.hid (CU1.out.below hb2)
              clear hb2
              obtain ⟨g2, c2, rfl, hc2, hga, hgb⟩ := ho2.sl hn2
              obtain ⟨B2, P2, F2, Z2, T2, S2⟩ := CU2.out
              have FIN := Lib.hid (fin_cells (rd := rd) (fi := fi) (li := li) B2 Z2 ho2 CU1.out.2.2.2.2.2 hga)
              have r0 := Z2 0
              have r1 := Z2 1
              have r2 := Z2 2
              have r3 := Z2 3
              have t0 := T2 0
              have t1 := T2 1
              have t2 := T2 2
              have t3 := T2 3
              clear B2 P2 F2 Z2 T2 S2 ho2 hn2
              go_wp2_with fail
              obtain ⟨B5, F5, O5⟩ := FIN.out
              clear FIN r0 r1 r2 r3 t0 t1 t2 t3
              generalize ((((w2.setCell ⟨w.heap.size + 1, 0, none⟩ (.int .i64 rd)).setCell ⟨w.heap.size + 1, 1, none⟩ (.slice (some ⟨g2, 0, none⟩) l.length c2)).setCell ⟨w.heap.size + 1, 2, none⟩ (.int .i64 fi)).setCell ⟨w.heap.size + 1, 3, none⟩ (.int .i64 li)) = W5 at *
              have s0 := F5 0
              have s1 := F5 1
              have s2 := F5 2
              have s3 := F5 3
              refine bodyPost_ret (v := .tuple #[.agg #[.int .i64 rd, .slice (some ⟨g2, 0, none⟩) l.length c2, .int .i64 fi, .int .i64 li], .int .i64 3]) ?hr rfl ?_
              case hr => rw [results_cell_tmp rfl]; go_simp
              exact ⟨rd, fi, li, _, _, _, rfl, ⟨_, rfl⟩, B5, O5, by simp, HO.out⟩
            · go_roundw
              case rel => exact ⟨j + 1, by omega, by go_num, CUS.out _ _, HRS.out _ _⟩
              case measure => simp [intOf]; omega
          · have hx2 : ¬ x ≥ 0 := hx
            have hdx : decide (x ≥ 0) = false := decide_eq_false hx
            have hdx2 : decide (0 ≤ x) = false := decide_eq_false hx
            go_wp2_with fail
            go_quiet (fail)
            go_wp2_with fail
            go_roundw
            case rel => exact ⟨j + 1, by omega, by go_num, CUS.out _ _, HRS.out _ _⟩
            case measure => simp [intOf]; omega
        · have hrp2 : ¬ (p : Int) ≥ rd := hrp
          by_cases hx : 0 ≤ x
          · have hx2 : x ≥ 0 := hx
            have hdx : decide (x ≥ 0) = true := decide_eq_true hx
            have hdx2 : decide (0 ≤ x) = true := decide_eq_true hx
            go_wp2_with fail
            go_quiet (fail)
            go_wp2_with fail
            · have CU1 : Hid (Cur w (wr.drewN nq) rd fi li (.slice (some ⟨g, 0, none⟩) l.length c) l) := CUN.out nq
              clear q0 q1 q2 q3 hc1 hf1
              refine (scopy_any _ l rd fi li _ CU1.out.2.1 (by omega)).mono ?_
              rintro e w2 ⟨v2, rfl, hb2, ho2, hn2⟩
              have CU2 := Lib.hid (CU1.out.below hb2)
              clear hb2
              obtain ⟨g2, c2, rfl, hc2, hga, hgb⟩ := ho2.sl hn2
              obtain ⟨B2, P2, F2, Z2, T2, S2⟩ := CU2.out
              have FIN := Lib.hid (fin_cells (rd := rd) (fi := fi) (li := li) B2 Z2 ho2 CU1.out.2.2.2.2.2 hga)
              have r0 := Z2 0
              have r1 := Z2 1
              have r2 := Z2 2
              have r3 := Z2 3
              have t0 := T2 0
              have t1 := T2 1
              have t2 := T2 2
              have t3 := T2 3
              clear B2 P2 F2 Z2 T2 S2 ho2 hn2
              go_wp2_with fail
              obtain ⟨B5, F5, O5⟩ := FIN.out
              clear FIN r0 r1 r2 r3 t0 t1 t2 t3
              generalize ((((w2.setCell ⟨w.heap.size + 1, 0, none⟩ (.int .i64 rd)).setCell ⟨w.heap.size + 1, 1, none⟩ (.slice (some ⟨g2, 0, none⟩) l.length c2)).setCell ⟨w.heap.size + 1, 2, none⟩ (.int .i64 fi)).setCell ⟨w.heap.size + 1, 3, none⟩ (.int .i64 li)) = W5 at *
              have s0 := F5 0
              have s1 := F5 1
              have s2 := F5 2
              have s3 := F5 3
              refine bodyPost_ret (v := .tuple #[.agg #[.int .i64 rd, .slice (some ⟨g2, 0, none⟩) l.length c2, .int .i64 fi, .int .i64 li], .int .i64 3]) ?hr rfl ?_
              case hr => rw [results_cell_tmp rfl]; go_simp
              exact ⟨rd, fi, li, _, _, _, rfl, ⟨_, rfl⟩, B5, O5, by simp, HO.out⟩
            · go_roundw
              case rel => exact ⟨j + 1, by omega, by go_num, CUN.out _, HRN.out _⟩
              case measure => simp [intOf]; omega
          · have hx2 : ¬ x ≥ 0 := hx
            have hdx : decide (x ≥ 0) = false := decide_eq_false hx
            have hdx2 : decide (0 ≤ x) = false := decide_eq_false hx
            go_wp2_with fail
            go_quiet (fail)
            go_wp2_with fail
            go_roundw
            case rel => exact ⟨j + 1, by omega, by go_num, CUN.out _, HRN.out _⟩
            case measure => simp [intOf]; omega
      · have hlt' : ¬ (j : Int) < (d.size : Int) := by omega
        have kS0 := sc_of CU.out
        have CUd : Cur w wr.drew rd fi li (.slice (some ⟨g, 0, none⟩) l.length c) l := CU.out.drew 1
        have CUe : ∀ ob, Cur w (wr.alloc ob).drew rd fi li (.slice (some ⟨g, 0, none⟩) l.length c) l := fun ob => (CU.out.alloc ob).drew 1
        have HRd : Row30 wr.drew wc.heap.size (.slice (some ⟨ga, 0, none⟩) 30 30) := HR.out.drew 1
        have HRe : ∀ ob, Row30 (wr.alloc ob).drew wc.heap.size (.slice (some ⟨ga, 0, none⟩) 30 30) := fun ob => (HR.out.below ((Below.refl _ _).alloc (Nat.le_refl _) ob)).drew 1
        have kSd := sc_of CUd
        have kSE := fun ob => sc_of (CUe ob)
        have q0 := CU.out.2.2.1 0
        have q1 := CU.out.2.2.1 1
        have q2 := CU.out.2.2.1 2
        have q3 := CU.out.2.2.1 3
        have j5 : rd ≤ 1000 := by omega
        have hgr : g < wr.heap.size := by have := HGW.out; have := CU.out.1.size; omega
        go_wp2_with fail
        go_region_held3 (fun W => W.cell? ⟨w.heap.size, 0, none⟩ = some (.int .i64 rd) ∧ W.cell? ⟨w.heap.size, 1, none⟩ = some (.slice (some ⟨g, 0, none⟩) l.length c) ∧ W.cell? ⟨w.heap.size, 2, none⟩ = some (.int .i64 fi) ∧ W.cell? ⟨w.heap.size, 3, none⟩ = some (.int .i64 li) ∧ Cur w W rd fi li (.slice (some ⟨g, 0, none⟩) l.length c) l)
          ((with_reducible first | assumption | (exact kSB) | (exact kSC _) | (exact kSD _ _ _ _) | (exact kS0) | (exact kSd) | (exact kSE _)))
          ((first
            | (go_at_call 91; (with_reducible refine (spieces_int ga _ _ _ (HRe _) r0 j5).mono ?_); rintro e wb ⟨vb, lb, rfl, hbb, hob, hpb, hlb, hnb⟩; obtain ⟨gb, cb, rfl, hcb, hgb1, hgb2⟩ := hob.sl hnb; have CUb := (CUe _).below hbb; have kSB := sc_of CUb; have FZ := Frm.below (show Frm (wr.alloc (.cells #[.int .i64 0, .slice none 0 0, .int .i64 0, .int .i64 0] 47)).drew wr.heap.size [.int .i64 0, .slice none 0 0, .int .i64 0, .int .i64 0] from Frm.new wr 47 [.int .i64 0, .slice none 0 0, .int .i64 0, .int .i64 0]) hbb (by simp); have TZ := Thaw.below (show Thaw (wr.alloc (.cells #[.int .i64 0, .slice none 0 0, .int .i64 0, .int .i64 0] 47)).drew wr.heap.size from Thaw.new wr 47 [.int .i64 0, .slice none 0 0, .int .i64 0, .int .i64 0]) hbb (by simp); have z0 := FZ 0; have z1 := FZ 1; have z2 := FZ 2; have z3 := FZ 3; have y0 := TZ 0; have y1 := TZ 1; have y2 := TZ 2; have y3 := TZ 3; have kSD := sc_store CUb (b := wr.heap.size) (by omega) CU.out.2.2.2.2.2)
            | (go_at_call 91; (with_reducible refine (spieces_int ga _ _ _ HRd r0 j5).mono ?_); rintro e wb ⟨vb, lb, rfl, hbb, hob, hpb, hlb, hnb⟩; obtain ⟨gb, cb, rfl, hcb, hgb1, hgb2⟩ := hob.sl hnb; have CUb := CUd.below hbb; have kSB := sc_of CUb; have kSC := fun o => sc_of (CUb.alloc o))))
        · have OUT := Lib.hid (out_new2 (x := rd) CUb hob)
          have HBB : Hid (w.heap.size + 1 < wb.heap.size) := Lib.hid (CUb.2.2.2.2.2)
          have HBG : Hid (wb.heap.size ≠ gb) := Lib.hid (by omega)
          have HB1 : Hid (w.heap.size + 1 < wr.drew.heap.size) := Lib.hid ((show w.heap.size + 1 < wr.heap.size from CU.out.2.2.2.2.2))
          have HB2 : Hid (wr.drew.heap.size ≤ gb) := Lib.hid hgb1
          clear CUb CUd CUe kSB kSd kSE kS0 HRd HRe q0 q1 q2 q3 hgb1
          generalize hW5 : (wb.alloc (.cells #[.int .i64 rd, .slice (some ⟨gb, 0, none⟩) lb.length cb, .int .i64 fi, .int .i64 li] 47)) = W5 at *
          generalize hbbe : wb.heap.size = bb at *
          generalize hBBe : wr.drew.heap.size = BB at *
          clear hW5 hbbe hBBe
          cases fin with
          | true =>
            obtain ⟨CO, FO, OO, TO⟩ := OUT.out
            obtain ⟨B2, P2, F2, Z2, T2, S2⟩ := CO
            have o2 := FO 2
            have y2 := TO 2
            have hbr : bb ≠ w.heap.size + 1 := by have := HBB.out; omega
            have FO' : Hid (Frm (W5.setCell ⟨bb, 2, none⟩ (.int .i64 ((f : Int) + (d.size : Int)))) bb [.int .i64 rd, .slice (some ⟨gb, 0, none⟩) lb.length cb, .int .i64 ((f : Int) + (d.size : Int)), .int .i64 li]) := Lib.hid (FO.set (i := 2) (by simp) _)
            have Z2' : Hid (Frm (W5.setCell ⟨bb, 2, none⟩ (.int .i64 ((f : Int) + (d.size : Int)))) (w.heap.size + 1) [.int .i64 0, .slice none 0 0, .int .i64 0, .int .i64 0]) := Lib.hid (Z2.far hbr _)
            have T2' : Hid (Thaw (W5.setCell ⟨bb, 2, none⟩ (.int .i64 ((f : Int) + (d.size : Int)))) (w.heap.size + 1)) := Lib.hid (T2.set _ _)
            have B2' : Hid (Below w.heap.size w (W5.setCell ⟨bb, 2, none⟩ (.int .i64 ((f : Int) + (d.size : Int))))) := Lib.hid (B2.setCell (p := ⟨bb, 2, none⟩) (by have := HBB.out; show w.heap.size ≤ bb; omega) _)
            have OO' : Hid (OwnPc (W5.setCell ⟨bb, 2, none⟩ (.int .i64 ((f : Int) + (d.size : Int)))) BB (.slice (some ⟨gb, 0, none⟩) lb.length cb) lb) := Lib.hid (own_far OO (fun x hx => by have hx' : gb = x := Option.some.inj hx; have := HBG.out; omega))
            clear B2 P2 F2 Z2 T2 S2 OO FO TO
            go_upto_region 19 with fail
            generalize hW6 : (W5.setCell ⟨bb, 2, none⟩ (.int .i64 ((f : Int) + (d.size : Int)))) = W6 at *
            clear hW6 o2 y2
            have FIN := Lib.hid (fin_cells (rd := rd) (fi := ((f : Int) + (d.size : Int))) (li := li) B2'.out Z2'.out OO'.out HB1.out HB2.out)
            have o0 := FO'.out 0
            have o1 := FO'.out 1
            have o2 := FO'.out 2
            have o3 := FO'.out 3
            have r0' := Z2'.out 0
            have r1' := Z2'.out 1
            have r2' := Z2'.out 2
            have r3' := Z2'.out 3
            have t0 := T2'.out 0
            have t1 := T2'.out 1
            have t2 := T2'.out 2
            have t3 := T2'.out 3
            go_wp2_with fail
            obtain ⟨B5, F5, O5⟩ := FIN.out
            clear FIN r0' r1' r2' r3' t0 t1 t2 t3 o0 o1 o2 o3
            generalize ((((W6.setCell ⟨w.heap.size + 1, 0, none⟩ (.int .i64 rd)).setCell ⟨w.heap.size + 1, 1, none⟩ (.slice (some ⟨gb, 0, none⟩) lb.length cb)).setCell ⟨w.heap.size + 1, 2, none⟩ (.int .i64 ((f : Int) + (d.size : Int)))).setCell ⟨w.heap.size + 1, 3, none⟩ (.int .i64 li)) = W7 at *
            have s0 := F5 0
            have s1 := F5 1
            have s2 := F5 2
            have s3 := F5 3
            refine bodyPost_ret (v := .tuple #[.agg #[.int .i64 rd, .slice (some ⟨gb, 0, none⟩) lb.length cb, .int .i64 ((f : Int) + (d.size : Int)), .int .i64 li], .int .i64 0]) ?hr rfl ?_
            case hr => rw [results_cell_tmp rfl]; go_simp
            exact ⟨rd, ((f : Int) + (d.size : Int)), li, _, _, lb, rfl, ⟨_, rfl⟩, B5, O5, by simp, ⟨HO.out.1, HO.out.2.1, HO.out.2.2.1, HO.out.2.2.2.1, hpb, hlb⟩⟩
          | false =>
            obtain ⟨CO, FO, OO, TO⟩ := OUT.out
            obtain ⟨B2, P2, F2, Z2, T2, S2⟩ := CO
            have FO' := Lib.hid FO
            have Z2' := Lib.hid Z2
            have T2' := Lib.hid T2
            have B2' := Lib.hid B2
            have OO' := Lib.hid OO
            clear B2 P2 F2 Z2 T2 S2 OO FO TO
            go_upto_region 19 with fail
            obtain ⟨W6, hW6⟩ : ∃ W6, W5 = W6 := ⟨_, rfl⟩
            subst hW6
            have FIN := Lib.hid (fin_cells (rd := rd) (fi := fi) (li := li) B2'.out Z2'.out OO'.out HB1.out HB2.out)
            have o0 := FO'.out 0
            have o1 := FO'.out 1
            have o2 := FO'.out 2
            have o3 := FO'.out 3
            have r0' := Z2'.out 0
            have r1' := Z2'.out 1
            have r2' := Z2'.out 2
            have r3' := Z2'.out 3
            have t0 := T2'.out 0
            have t1 := T2'.out 1
            have t2 := T2'.out 2
            have t3 := T2'.out 3
            go_wp2_with fail
            obtain ⟨B5, F5, O5⟩ := FIN.out
            clear FIN r0' r1' r2' r3' t0 t1 t2 t3 o0 o1 o2 o3
            generalize ((((W5.setCell ⟨w.heap.size + 1, 0, none⟩ (.int .i64 rd)).setCell ⟨w.heap.size + 1, 1, none⟩ (.slice (some ⟨gb, 0, none⟩) lb.length cb)).setCell ⟨w.heap.size + 1, 2, none⟩ (.int .i64 fi)).setCell ⟨w.heap.size + 1, 3, none⟩ (.int .i64 li)) = W7 at *
            have s0 := F5 0
            have s1 := F5 1
            have s2 := F5 2
            have s3 := F5 3
            refine bodyPost_ret (v := .tuple #[.agg #[.int .i64 rd, .slice (some ⟨gb, 0, none⟩) lb.length cb, .int .i64 fi, .int .i64 li], .int .i64 0]) ?hr rfl ?_
            case hr => rw [results_cell_tmp rfl]; go_simp
            exact ⟨rd, fi, li, _, _, lb, rfl, ⟨_, rfl⟩, B5, O5, by simp, ⟨HO.out.1, HO.out.2.1, HO.out.2.2.1, HO.out.2.2.2.1, hpb, hlb⟩⟩
        · have OUT := Lib.hid (out_set2 (x := rd) CUb (b := wr.heap.size) (by omega) CU.out.2.2.2.2.2 FZ TZ hob (by have := hgb1; simp at this; omega))
          have HBB : Hid (w.heap.size + 1 < wr.heap.size) := Lib.hid (CU.out.2.2.2.2.2)
          have HBG : Hid (wr.heap.size ≠ gb) := Lib.hid (by have := hgb1; simp at this; omega)
          have HB1 : Hid (w.heap.size + 1 < (wr.alloc (.cells #[.int .i64 0, .slice none 0 0, .int .i64 0, .int .i64 0] 47)).drew.heap.size) := Lib.hid (by have := CU.out.2.2.2.2.2; simp; omega)
          have HB2 : Hid ((wr.alloc (.cells #[.int .i64 0, .slice none 0 0, .int .i64 0, .int .i64 0] 47)).drew.heap.size ≤ gb) := Lib.hid hgb1
          clear CUb CUd CUe kSB kSd kSE kS0 HRd HRe q0 q1 q2 q3 hgb1
          generalize hW5 : ((((wb.setCell ⟨wr.heap.size, 0, none⟩ (.int .i64 rd)).setCell ⟨wr.heap.size, 1, none⟩ (.slice (some ⟨gb, 0, none⟩) lb.length cb)).setCell ⟨wr.heap.size, 2, none⟩ (.int .i64 fi)).setCell ⟨wr.heap.size, 3, none⟩ (.int .i64 li)) = W5 at *
          generalize hbbe : wr.heap.size = bb at *
          generalize hBBe : (wr.alloc (.cells #[.int .i64 0, .slice none 0 0, .int .i64 0, .int .i64 0] 47)).drew.heap.size = BB at *
          clear hW5 hbbe hBBe
          cases fin with
          | true =>
            obtain ⟨CO, FO, OO, TO⟩ := OUT.out
            obtain ⟨B2, P2, F2, Z2, T2, S2⟩ := CO
            have o2 := FO 2
            have y2 := TO 2
            have hbr : bb ≠ w.heap.size + 1 := by have := HBB.out; omega
            have FO' : Hid (Frm (W5.setCell ⟨bb, 2, none⟩ (.int .i64 ((f : Int) + (d.size : Int)))) bb [.int .i64 rd, .slice (some ⟨gb, 0, none⟩) lb.length cb, .int .i64 ((f : Int) + (d.size : Int)), .int .i64 li]) := Lib.hid (FO.set (i := 2) (by simp) _)
            have Z2' : Hid (Frm (W5.setCell ⟨bb, 2, none⟩ (.int .i64 ((f : Int) + (d.size : Int)))) (w.heap.size + 1) [.int .i64 0, .slice none 0 0, .int .i64 0, .int .i64 0]) := Lib.hid (Z2.far hbr _)
            have T2' : Hid (Thaw (W5.setCell ⟨bb, 2, none⟩ (.int .i64 ((f : Int) + (d.size : Int)))) (w.heap.size + 1)) := Lib.hid (T2.set _ _)
            have B2' : Hid (Below w.heap.size w (W5.setCell ⟨bb, 2, none⟩ (.int .i64 ((f : Int) + (d.size : Int))))) := Lib.hid (B2.setCell (p := ⟨bb, 2, none⟩) (by have := HBB.out; show w.heap.size ≤ bb; omega) _)
            have OO' : Hid (OwnPc (W5.setCell ⟨bb, 2, none⟩ (.int .i64 ((f : Int) + (d.size : Int)))) BB (.slice (some ⟨gb, 0, none⟩) lb.length cb) lb) := Lib.hid (own_far OO (fun x hx => by have hx' : gb = x := Option.some.inj hx; have := HBG.out; omega))
            clear B2 P2 F2 Z2 T2 S2 OO FO TO
            go_upto_region 19 with fail
            generalize hW6 : (W5.setCell ⟨bb, 2, none⟩ (.int .i64 ((f : Int) + (d.size : Int)))) = W6 at *
            clear hW6 o2 y2
            have FIN := Lib.hid (fin_cells (rd := rd) (fi := ((f : Int) + (d.size : Int))) (li := li) B2'.out Z2'.out OO'.out HB1.out HB2.out)
            have o0 := FO'.out 0
            have o1 := FO'.out 1
            have o2 := FO'.out 2
            have o3 := FO'.out 3
            have r0' := Z2'.out 0
            have r1' := Z2'.out 1
            have r2' := Z2'.out 2
            have r3' := Z2'.out 3
            have t0 := T2'.out 0
            have t1 := T2'.out 1
            have t2 := T2'.out 2
            have t3 := T2'.out 3
            go_wp2_with fail
            obtain ⟨B5, F5, O5⟩ := FIN.out
            clear FIN r0' r1' r2' r3' t0 t1 t2 t3 o0 o1 o2 o3
            generalize ((((W6.setCell ⟨w.heap.size + 1, 0, none⟩ (.int .i64 rd)).setCell ⟨w.heap.size + 1, 1, none⟩ (.slice (some ⟨gb, 0, none⟩) lb.length cb)).setCell ⟨w.heap.size + 1, 2, none⟩ (.int .i64 ((f : Int) + (d.size : Int)))).setCell ⟨w.heap.size + 1, 3, none⟩ (.int .i64 li)) = W7 at *
            have s0 := F5 0
            have s1 := F5 1
            have s2 := F5 2
            have s3 := F5 3
            refine bodyPost_ret (v := .tuple #[.agg #[.int .i64 rd, .slice (some ⟨gb, 0, none⟩) lb.length cb, .int .i64 ((f : Int) + (d.size : Int)), .int .i64 li], .int .i64 0]) ?hr rfl ?_
            case hr => rw [results_cell_tmp rfl]; go_simp
            exact ⟨rd, ((f : Int) + (d.size : Int)), li, _, _, lb, rfl, ⟨_, rfl⟩, B5, O5, by simp, ⟨HO.out.1, HO.out.2.1, HO.out.2.2.1, HO.out.2.2.2.1, hpb, hlb⟩⟩
          | false =>
            obtain ⟨CO, FO, OO, TO⟩ := OUT.out
            obtain ⟨B2, P2, F2, Z2, T2, S2⟩ := CO
            have FO' := Lib.hid FO
            have Z2' := Lib.hid Z2
            have T2' := Lib.hid T2
            have B2' := Lib.hid B2
            have OO' := Lib.hid OO
            clear B2 P2 F2 Z2 T2 S2 OO FO TO
            go_upto_region 19 with fail
            obtain ⟨W6, hW6⟩ : ∃ W6, W5 = W6 := ⟨_, rfl⟩
            subst hW6
            have FIN := Lib.hid (fin_cells (rd := rd) (fi := fi) (li := li) B2'.out Z2'.out OO'.out HB1.out HB2.out)
            have o0 := FO'.out 0
            have o1 := FO'.out 1
            have o2 := FO'.out 2
            have o3 := FO'.out 3
            have r0' := Z2'.out 0
            have r1' := Z2'.out 1
            have r2' := Z2'.out 2
            have r3' := Z2'.out 3
            have t0 := T2'.out 0
            have t1 := T2'.out 1
            have t2 := T2'.out 2
            have t3 := T2'.out 3
            go_wp2_with fail
            obtain ⟨B5, F5, O5⟩ := FIN.out
            clear FIN r0' r1' r2' r3' t0 t1 t2 t3 o0 o1 o2 o3
            generalize ((((W5.setCell ⟨w.heap.size + 1, 0, none⟩ (.int .i64 rd)).setCell ⟨w.heap.size + 1, 1, none⟩ (.slice (some ⟨gb, 0, none⟩) lb.length cb)).setCell ⟨w.heap.size + 1, 2, none⟩ (.int .i64 fi)).setCell ⟨w.heap.size + 1, 3, none⟩ (.int .i64 li)) = W7 at *
            have s0 := F5 0
            have s1 := F5 1
            have s2 := F5 2
            have s3 := F5 3
            refine bodyPost_ret (v := .tuple #[.agg #[.int .i64 rd, .slice (some ⟨gb, 0, none⟩) lb.length cb, .int .i64 fi, .int .i64 li], .int .i64 0]) ?hr rfl ?_
            case hr => rw [results_cell_tmp rfl]; go_simp
            exact ⟨rd, fi, li, _, _, lb, rfl, ⟨_, rfl⟩, B5, O5, by simp, ⟨HO.out.1, HO.out.2.1, HO.out.2.2.1, HO.out.2.2.2.1, hpb, hlb⟩⟩
end Go.Proofs.Ytifohfclgonhfaa
