/- The program's RegisterTry. -/
import Derived.Test.YtlhjhdlpejpooabIBs
import Derived.Test.YtlhjhdlpejpooabIIns
import Derived.Test.YtlhjhdlpejpooabIRt
namespace Go.Proofs.Ytlhjhdlpejpooab
open Go.RowKit
set_option linter.unusedVariables false
set_option linter.unusedSimpArgs false

set_option maxRecDepth 100000 in
set_option maxHeartbeats 8000000 in
theorem itry_any (n0 x y : Int) (v : Value) (l : List Tic) (w : World) (hs : Tcs w v l) (hl : l.length ≤ 1048576) : Calls Try.prog 19 #[.agg #[.int .i64 n0, v], .agg #[.int .i64 x, .int .i64 y]] w (GotRgB w (rtryv (n0, l) (x, y))) := by
  have HT := Lib.hid hs
  obtain ⟨_, _, a, c, rfl, _, _⟩ := hs
  obtain ⟨W0, hW0⟩ : ∃ W0, W0 = ((w.alloc (.cells #[.int .i64 n0, .slice a l.length c] 28)).alloc (.cells #[.int .i64 x, .int .i64 y] 38)).alloc (.cells #[.int .i64 0, .slice none 0 0] 28) := ⟨_, rfl⟩
  have e1 : (w.alloc (.cells #[.int .i64 n0, .slice a l.length c] 28)).heap.size = w.heap.size + 1 := by simp
  have e2 : ((w.alloc (.cells #[.int .i64 n0, .slice a l.length c] 28)).alloc (.cells #[.int .i64 x, .int .i64 y] 38)).heap.size = w.heap.size + 1 + 1 := by simp
  have s0 : W0.heap.size = w.heap.size + 1 + 1 + 1 := by rw [hW0]; simp
  have U0 : Hid (Below w.heap.size w W0) := Lib.hid (by rw [hW0]; exact (((Below.refl _ _).alloc (Nat.le_refl _) _).alloc (by simp) _).alloc (by simp; omega) _)
  have P0 : Hid (RgV W0 w.heap.size n0 (.slice a l.length c)) := Lib.hid (by rw [hW0]; exact ((RgV.new w n0 _ _).below ((Below.refl _ _).alloc (Nat.le_refl _) _)).below ((Below.refl _ _).alloc (Nat.le_refl _) _))
  have T0 : Hid (RgV W0 (w.heap.size + 1) x (.int .i64 y)) := Lib.hid (by rw [hW0, ← e1]; exact (RgV.new _ x _ _).below ((Below.refl _ _).alloc (Nat.le_refl _) _))
  have Z0 : Hid (RgV W0 (w.heap.size + 1 + 1) 0 (.slice none 0 0)) := Lib.hid (by rw [hW0, ← e2]; exact RgV.new _ 0 _ _)
  have F0 : Hid (Soft W0 (w.heap.size + 1 + 1)) := Lib.hid (by rw [hW0, ← e2]; exact Soft.new _ _ _)
  clear e1 e2 s0
  go_enter Try.func19, Try.ntmps19
  go_wp2_with fail
  rw [← hW0]
  clear hW0
  obtain ⟨tb, htb⟩ : ∃ tb, tb = w.heap.size + 1 := ⟨_, rfl⟩
  obtain ⟨rb, hrb⟩ : ∃ rb, rb = w.heap.size + 1 + 1 := ⟨_, rfl⟩
  have hrw : Hid (w.heap.size ≤ rb) := Lib.hid (by omega)
  rw [← hrb] at Z0 F0 ⊢
  rw [← htb] at T0 ⊢
  clear htb hrb
  refine (ireg_any n0 _ l _ (HT.out.1.below U0.out) hl).mono ?_
  rintro e w1 ⟨rfl, hb1⟩
  have P1 := Lib.hid (P0.out.below hb1)
  have T1 := Lib.hid (T0.out.below hb1)
  have Z1 := Lib.hid (Z0.out.below hb1)
  have F1 := Lib.hid (F0.out.below hb1 Z0.out.lt)
  have U1 := Lib.hid (U0.out.trans (hb1.mono U0.out.size))
  clear hb1 P0 T0 Z0 F0 U0
  by_cases k1 : regok (n0, l)
  · rw [decide_eq_true k1]
    have HK := Lib.hid k1
    have hl8 : l.length ≤ 8 := k1.2.1
    have HN : Hid (0 ≤ n0 ∧ n0 ≤ 999) := Lib.hid k1.1
    have HPW : Hid (l.Pairwise TL) := Lib.hid k1.2.2.2
    clear k1
    obtain ⟨t0, t1⟩ := T1.out
    go_wp2_with fail
    refine (isticket_any (x, y) _).mono ?_
    rintro e w2 ⟨rfl, hb2⟩
    have P2 := Lib.hid (P1.out.below hb2)
    have T2 := Lib.hid (T1.out.below hb2)
    have Z2 := Lib.hid (Z1.out.below hb2)
    have F2 := Lib.hid (F1.out.below hb2 Z1.out.lt)
    have U2 := Lib.hid (U1.out.trans (hb2.mono U1.out.size))
    clear hb2 P1 T1 Z1 F1 U1 t0 t1
    by_cases k2 : tkvd (x, y)
    · rw [decide_eq_true k2]
      have HV := Lib.hid (rtryv_yes (r := (n0, l)) (t := (x, y)) ⟨HK.out, k2⟩)
      clear k2
      obtain ⟨p0, p1⟩ := P2.out
      go_wp2_with fail
      refine (copyreg_any n0 _ l w2 (HT.out.below U2.out) hl).mono ?_
      rintro e w3 ⟨v3, rfl, hO3, hb3⟩
      obtain ⟨av, cv, rfl⟩ := ownsRow_shape hO3
      dsimp only at hO3 ⊢
      have P3 := P2.out.below hb3
      have T3 := T2.out.below hb3
      have Z3 := Z2.out.below hb3
      have F3 := F2.out.below hb3 Z2.out.lt
      have U3 := U2.out.trans (hb3.mono U2.out.size)
      have UA : Below w3.heap.size w3 (w3.alloc (.cells #[.int .i64 n0, .slice av l.length cv] 28)) := (Below.refl _ _).alloc (Nat.le_refl _) _
      have N4 := Lib.hid (RgV.new w3 n0 (.slice av l.length cv) 28)
      have NF4 := Lib.hid (Soft.new w3 #[.int .i64 n0, .slice av l.length cv] 28)
      have P4 := Lib.hid (P3.below UA)
      have T4 := Lib.hid (T3.below UA)
      have Z4 := Lib.hid (Z3.below UA)
      have F4 := Lib.hid (F3.below UA Z3.lt)
      have U4 := Lib.hid (U3.trans (UA.mono U3.size))
      have O4 := Lib.hid (OwnTc.lower (hO3.below UA) U2.out.size)
      have hnb : Hid (rb < w3.heap.size ∧ (Value.slice av l.length cv).ownBlock ≠ some rb ∧ (Value.slice av l.length cv).ownBlock ≠ some w3.heap.size) := Lib.hid ⟨Z3.lt, fun e => by have := (World.ownsRow.lt hO3 rb e).1; have := Z2.out.lt; omega, fun e => by have := (World.ownsRow.lt hO3 _ e).2; omega⟩
      clear hb3 P3 T3 Z3 F3 U3 UA P2 T2 Z2 F2 U2 p0 p1 hO3
      obtain ⟨q0, q1⟩ := N4.out
      obtain ⟨t0, t1⟩ := T4.out
      go_upto_region 4 with fail
      generalize (w3.alloc (.cells #[.int .i64 n0, .slice av l.length cv] 28)) = W4 at N4 NF4 P4 T4 Z4 F4 U4 O4 q0 q1 t0 t1 ⊢
      generalize w3.heap.size = nb at N4 NF4 hnb q0 q1 ⊢
      go_wp2_with fail
      refine (bsearch_any _ l x y W4 (Tics.of_own O4.out) (by omega) HPW.out).mono ?_
      rintro e w5 ⟨p, q, rfl, hbs, hq, hb5⟩
      have N5 := Lib.hid (N4.out.below hb5)
      have NF5 := Lib.hid (NF4.out.below hb5 N4.out.lt)
      have P5 := Lib.hid (P4.out.below hb5)
      have T5 := Lib.hid (T4.out.below hb5)
      have Z5 := Lib.hid (Z4.out.below hb5)
      have F5 := Lib.hid (F4.out.below hb5 Z4.out.lt)
      have U5 := Lib.hid (U4.out.trans (hb5.mono U4.out.size))
      have O5 := Lib.hid (O4.out.below hb5)
      have HB5 := Lib.hid hbs
      have HQ5 := Lib.hid hq
      clear hb5 hbs hq N4 NF4 P4 T4 Z4 F4 U4 O4 q0 q1 t0 t1
      cases q
      · have hnm : (x, y) ∉ l := fun h => by have := HQ5.out; rw [decide_eq_true h] at this; cases this
        have HNM := Lib.hid hnm
        clear hnm
        obtain ⟨t0, t1⟩ := T5.out
        obtain ⟨p0, p1⟩ := P5.out
        go_wp2_with fail
        refine (isrecent_any x y n0 _ HN.out).mono ?_
        rintro e w6 ⟨rfl, hb6⟩
        have N6 := Lib.hid (N5.out.below hb6)
        have NF6 := Lib.hid (NF5.out.below hb6 N5.out.lt)
        have P6 := Lib.hid (P5.out.below hb6)
        have T6 := Lib.hid (T5.out.below hb6)
        have Z6 := Lib.hid (Z5.out.below hb6)
        have F6 := Lib.hid (F5.out.below hb6 Z5.out.lt)
        have U6 := Lib.hid (U5.out.trans (hb6.mono U5.out.size))
        have O6 := Lib.hid (O5.out.below hb6)
        clear hb6 N5 NF5 P5 T5 Z5 F5 U5 O5 p0 p1 t0 t1
        obtain ⟨p0, p1⟩ := P6.out
        obtain ⟨q0, q1⟩ := N6.out
        obtain ⟨z0, z1⟩ := Z6.out
        have f0 := F6.out 0
        have f1 := F6.out 1
        have KE := Lib.hid (reg_end (m := n0) U6.out Z6.out O6.out hnb.out.2.1 hrw.out)
        by_cases k3 : trec n0 (x, y)
        · rw [decide_eq_true k3]
          by_cases k4 : l.length = 8
          · have HR := Lib.hid (HV.out.trans (by rw [rtry_no (r := (n0, l)) (t := (x, y)) (.inr (.inl (by show 8 ≤ l.length; omega)))]))
            have d8 : ((l.length : Int) == 8) = true := by rw [beq_iff_eq]; omega
            clear k3 k4
            go_wp2_with fail
            generalize (w6.setCell ⟨rb, 0, none⟩ (.int .i64 n0)).setCell ⟨rb, 1, none⟩ (.slice av l.length cv) = WF at KE ⊢
            obtain ⟨k0, k1⟩ := KE.out.1
            refine bodyPost_ret (v := .tuple #[.agg #[.int .i64 n0, .slice av l.length cv], .bool false]) ?_ rfl ?_
            · rw [results_cell_tmp rfl]; go_simp
            · exact ⟨_, by rw [HR.out], by rw [HR.out]; exact KE.out.2.2, KE.out.2.1⟩
          · have hyes := rtry_yes (r := (n0, l)) (t := (x, y)) (by
              rintro (h | h | h)
              · exact h k3
              · exact k4 (by have : 8 ≤ l.length := h; omega)
              · exact HNM.out h)
            have HR := Lib.hid (HV.out.trans (by rw [hyes, HB5.out.done HPW.out |>.2 HNM.out]))
            have d8 : ((l.length : Int) == 8) = false := by rw [beq_eq_false_iff_ne]; omega
            clear hyes k3 KE z0 z1 f0 f1
            obtain ⟨t0, t1⟩ := T6.out
            have hpl : p ≤ l.length := HB5.out.jl
            have UA : Below w6.heap.size w6 (w6.alloc (.cells #[.int .i64 x, .int .i64 y] 38)) := (Below.refl _ _).alloc (Nat.le_refl _) _
            have N7 := Lib.hid (N6.out.below UA)
            have NF7 := Lib.hid (NF6.out.below UA N6.out.lt)
            have Z7 := Lib.hid (Z6.out.below UA)
            have F7 := Lib.hid (F6.out.below UA Z6.out.lt)
            have U7 := Lib.hid (U6.out.trans (UA.mono U6.out.size))
            have hwn : Hid (w.heap.size ≤ w6.heap.size) := Lib.hid U6.out.size
            have HI := Lib.hid (insert_any (.slice av l.length cv) l p w6.heap.size x y w.heap.size (w6.alloc (.cells #[.int .i64 x, .int .i64 y] 38)) (O6.out.below UA) hl8 hpl U7.out.size (heap_alloc_new w6 _) (fun e => by have := (World.ownsRow.lt O6.out _ e).2; omega))
            have hnl : Hid (nb < w6.heap.size ∧ rb < nb) := Lib.hid ⟨N6.out.lt, hnb.out.1⟩
            have hsz7 : Hid (w6.heap.size < (w6.alloc (.cells #[.int .i64 x, .int .i64 y] 38)).heap.size) := Lib.hid (by simp)
            have hOB := Lib.hid (fun j (hj : (Value.slice av l.length cv).ownBlock = some j) => (World.ownsRow.lt O6.out j hj).1)
            clear UA N6 NF6 Z6 F6 U6 O6 P6 T6
            have hnb7 : Hid (w.heap.size ≤ nb) := Lib.hid (by have := hrw.out; have := hnl.out; omega)
            go_wp2_with fail
            refine HI.out.mono ?_
            rintro e w8 ⟨v8, rfl, hO8, hg8, hob8⟩
            obtain ⟨a8, c8, rfl⟩ := ownsRow_shape hO8
            have N8 := N7.out.kept hg8 (fun e => hnb.out.2.2 e.symm)
            have NF8 := NF7.out.kept hg8 N7.out.lt (fun e => hnb.out.2.2 e.symm)
            have Z8 := Z7.out.kept hg8 (fun e => hnb.out.2.1 e.symm)
            have F8 := F7.out.kept hg8 Z7.out.lt (fun e => hnb.out.2.1 e.symm)
            have U8 := U7.out.grown hg8 U7.out.size hOB.out
            have hn1 : (Value.slice a8 (l.take p ++ (x, y) :: l.drop p).length c8).ownBlock ≠ some nb := by
              rcases hob8 with h | ⟨k, h, hk⟩
              · rw [h]; exact hnb.out.2.2
              · rw [h]; intro e; injection e with e; have := hnl.out; have := hsz7.out; omega
            have hn2 : (Value.slice a8 (l.take p ++ (x, y) :: l.drop p).length c8).ownBlock ≠ some rb := by
              rcases hob8 with h | ⟨k, h, hk⟩
              · rw [h]; exact hnb.out.2.1
              · rw [h]; intro e; injection e with e; have := hnl.out; have := hsz7.out; omega
            have N9 := Lib.hid (N8.set1 (.slice a8 (l.take p ++ (x, y) :: l.drop p).length c8))
            have Z9 := Lib.hid (Z8.far (c := nb) (i := 1) (v := .slice a8 (l.take p ++ (x, y) :: l.drop p).length c8) (by have := hnl.out; omega))
            have F9 := Lib.hid (F8.set ⟨nb, 1, none⟩ (.slice a8 (l.take p ++ (x, y) :: l.drop p).length c8))
            have U9 := Lib.hid (U8.setCell (p := ⟨nb, 1, none⟩) hnb7.out (.slice a8 (l.take p ++ (x, y) :: l.drop p).length c8))
            have O9 := Lib.hid (OwnTc.far (i := 1) (u := .slice a8 (l.take p ++ (x, y) :: l.drop p).length c8) hO8 hn1)
            have hn2' := Lib.hid hn2
            obtain ⟨q0, q1⟩ := N8
            have g1 := NF8 1
            clear NF8 Z8 F8 U8 hn1 hn2 hob8 hg8 hO8
            obtain ⟨m, hm⟩ : ∃ m, m = l.take p ++ (x, y) :: l.drop p := ⟨_, rfl⟩
            rw [← hm] at N9 Z9 F9 U9 O9 hn2' HR ⊢
            clear hm
            go_upto_region 8 with fail
            generalize w8.setCell ⟨nb, 1, none⟩ (.slice a8 m.length c8) = W9 at N9 Z9 F9 U9 O9 ⊢
            clear q0 q1 g1
            obtain ⟨q0, q1⟩ := N9.out
            obtain ⟨z0, z1⟩ := Z9.out
            have f0 := F9.out 0
            have f1 := F9.out 1
            have KE := Lib.hid (reg_end (m := n0) U9.out Z9.out O9.out hn2'.out hrw.out)
            go_wp2_with fail
            generalize (W9.setCell ⟨rb, 0, none⟩ (.int .i64 n0)).setCell ⟨rb, 1, none⟩ (.slice a8 m.length c8) = WF at KE ⊢
            obtain ⟨k0, k1⟩ := KE.out.1
            refine bodyPost_ret (v := .tuple #[.agg #[.int .i64 n0, .slice a8 m.length c8], .bool true]) ?_ rfl ?_
            · rw [results_cell_tmp rfl]; go_simp
            · exact ⟨_, by rw [HR.out], by rw [HR.out]; exact KE.out.2.2, KE.out.2.1⟩
        · rw [decide_eq_false k3]
          have HR := Lib.hid (HV.out.trans (by rw [rtry_no (r := (n0, l)) (t := (x, y)) (.inl k3)]))
          clear k3
          go_wp2_with fail
          generalize (w6.setCell ⟨rb, 0, none⟩ (.int .i64 n0)).setCell ⟨rb, 1, none⟩ (.slice av l.length cv) = WF at KE ⊢
          obtain ⟨k0, k1⟩ := KE.out.1
          refine bodyPost_ret (v := .tuple #[.agg #[.int .i64 n0, .slice av l.length cv], .bool false]) ?_ rfl ?_
          · rw [results_cell_tmp rfl]; go_simp
          · exact ⟨_, by rw [HR.out], by rw [HR.out]; exact KE.out.2.2, KE.out.2.1⟩
      · have hm : (x, y) ∈ l := by have := HQ5.out; exact of_decide_eq_true this.symm
        have HR := Lib.hid (HV.out.trans (by rw [rtry_no (r := (n0, l)) (t := (x, y)) (.inr (.inr hm))]))
        obtain ⟨q0, q1⟩ := N5.out
        obtain ⟨z0, z1⟩ := Z5.out
        have f0 := F5.out 0
        have f1 := F5.out 1
        have KE := Lib.hid (reg_end (m := n0) U5.out Z5.out O5.out hnb.out.2.1 hrw.out)
        clear hm
        go_wp2_with fail
        generalize (w5.setCell ⟨rb, 0, none⟩ (.int .i64 n0)).setCell ⟨rb, 1, none⟩ (.slice av l.length cv) = WF at KE ⊢
        obtain ⟨k0, k1⟩ := KE.out.1
        refine bodyPost_ret (v := .tuple #[.agg #[.int .i64 n0, .slice av l.length cv], .bool false]) ?_ rfl ?_
        · rw [results_cell_tmp rfl]; go_simp
        · exact ⟨_, by rw [HR.out], by rw [HR.out]; exact KE.out.2.2, KE.out.2.1⟩
    · rw [decide_eq_false k2]
      have HR := Lib.hid (rtryv_no (r := (n0, l)) (t := (x, y)) fun h => k2 h.2)
      clear k2
      have KE := Lib.hid (reg_end (m := 0) U2.out Z2.out (OwnTc.nil w2 w.heap.size) (by simp [Value.ownBlock]) hrw.out)
      obtain ⟨z0, z1⟩ := Z2.out
      have f0 := F2.out 0
      have f1 := F2.out 1
      go_wp2_with fail
      generalize (w2.setCell ⟨rb, 0, none⟩ (.int .i64 0)).setCell ⟨rb, 1, none⟩ (.slice none 0 0) = WF at KE ⊢
      obtain ⟨k0, k1⟩ := KE.out.1
      refine bodyPost_ret (v := .tuple #[.agg #[.int .i64 0, .slice none 0 0], .bool false]) ?_ rfl ?_
      · rw [results_cell_tmp rfl]; go_simp
      · exact ⟨_, by rw [HR.out], by rw [HR.out]; exact KE.out.2.2, KE.out.2.1⟩
  · rw [decide_eq_false k1]
    have HR := Lib.hid (rtryv_no (r := (n0, l)) (t := (x, y)) fun h => k1 h.1)
    clear k1
    have KE := Lib.hid (reg_end (m := 0) U1.out Z1.out (OwnTc.nil w1 w.heap.size) (by simp [Value.ownBlock]) hrw.out)
    obtain ⟨z0, z1⟩ := Z1.out
    have f0 := F1.out 0
    have f1 := F1.out 1
    go_wp2_with fail
    generalize (w1.setCell ⟨rb, 0, none⟩ (.int .i64 0)).setCell ⟨rb, 1, none⟩ (.slice none 0 0) = WF at KE ⊢
    obtain ⟨k0, k1⟩ := KE.out.1
    refine bodyPost_ret (v := .tuple #[.agg #[.int .i64 0, .slice none 0 0], .bool false]) ?_ rfl ?_
    · rw [results_cell_tmp rfl]; go_simp
    · exact ⟨_, by rw [HR.out], by rw [HR.out]; exact KE.out.2.2, KE.out.2.1⟩

end Go.Proofs.Ytlhjhdlpejpooab
