/- The model's RegisterTry. -/
import Derived.Test.YtlhjhdlpejpooabSTry
import Derived.Test.YtlhjhdlpejpooabIRt
namespace Go.Proofs.Ytlhjhdlpejpooab
open Go.RowKit
set_option linter.unusedVariables false
set_option linter.unusedSimpArgs false

set_option maxRecDepth 100000 in
set_option maxHeartbeats 8000000 in
theorem stryv_any (n0 x y : Int) (v : Value) (l : List Tic) (w : World) (hs : Tcs w v l) (hnn : v.ownBlock ≠ none) (hl : l.length ≤ 1048576) : Calls Try.prog 17 #[.agg #[.int .i64 n0, v], .agg #[.int .i64 x, .int .i64 y]] w (GotRgB w (rtryv (n0, l) (x, y))) := by
  have HT := Lib.hid hs
  have HNN := Lib.hid hnn
  clear hnn
  obtain ⟨_, _, a, c, rfl, _, _⟩ := hs
  obtain ⟨W0, hW0⟩ : ∃ W0, W0 = ((w.alloc (.cells #[.int .i64 n0, .slice a l.length c] 28)).alloc (.cells #[.int .i64 x, .int .i64 y] 38)).alloc (.cells #[.int .i64 0, .slice none 0 0] 28) := ⟨_, rfl⟩
  have e1 : (w.alloc (.cells #[.int .i64 n0, .slice a l.length c] 28)).heap.size = w.heap.size + 1 := by simp
  have e2 : ((w.alloc (.cells #[.int .i64 n0, .slice a l.length c] 28)).alloc (.cells #[.int .i64 x, .int .i64 y] 38)).heap.size = w.heap.size + 1 + 1 := by simp
  have s0 : W0.heap.size = w.heap.size + 1 + 1 + 1 := by rw [hW0]; simp
  have U0 : Hid (Below w.heap.size w W0) := Lib.hid (by rw [hW0]; exact (((Below.refl _ _).alloc (Nat.le_refl _) _).alloc (by simp) _).alloc (by simp; omega) _)
  have P0 : Hid (RgV W0 w.heap.size n0 (.slice a l.length c)) := Lib.hid (by rw [hW0]; exact ((RgV.new w n0 _ _).below ((Below.refl _ _).alloc (Nat.le_refl _) _)).below ((Below.refl _ _).alloc (Nat.le_refl _) _))
  have T0 : Hid (RgV W0 (w.heap.size + 1) x (.int .i64 y)) := Lib.hid (by rw [hW0, ← e1]; exact (RgV.new _ x _ _).below ((Below.refl _ _).alloc (Nat.le_refl _) _))
  have Z0 : Hid (RgV W0 (w.heap.size + 1 + 1) 0 (.slice none 0 0)) := Lib.hid (by rw [hW0, ← e2]; exact RgV.new _ 0 _ _)
  have F0 : Hid (Soft W0 (w.heap.size + 1 + 1)) := Lib.hid (by rw [hW0, ← e2]; exact Soft.new _ _ _)
  clear e1 e2 s0
  go_enter Try.func17, Try.ntmps17
  go_wp2_with fail
  rw [← hW0]
  clear hW0
  obtain ⟨tb, htb⟩ : ∃ tb, tb = w.heap.size + 1 := ⟨_, rfl⟩
  obtain ⟨rb, hrb⟩ : ∃ rb, rb = w.heap.size + 1 + 1 := ⟨_, rfl⟩
  have hrw : Hid (w.heap.size ≤ rb) := Lib.hid (by omega)
  rw [← hrb] at Z0 F0 ⊢
  rw [← htb] at T0 ⊢
  clear htb hrb
  refine (sreg_any n0 _ l _ (HT.out.1.below U0.out) hl).mono ?_
  rintro e w1 ⟨rfl, hb1⟩
  have P1 := Lib.hid (P0.out.below hb1)
  have T1 := Lib.hid (T0.out.below hb1)
  have Z1 := Lib.hid (Z0.out.below hb1)
  have F1 := Lib.hid (F0.out.below hb1 Z0.out.lt)
  have U1 := Lib.hid (U0.out.trans (hb1.mono U0.out.size))
  clear hb1 P0 T0 Z0 F0 U0
  by_cases k1 : regok (n0, l)
  · rw [decide_eq_true k1]
    have HK := Lib.hid k1
    clear k1
    obtain ⟨t0, t1⟩ := T1.out
    go_wp2_with fail
    refine (sticket_any (x, y) _).mono ?_
    rintro e w2 ⟨rfl, hb2⟩
    have P2 := Lib.hid (P1.out.below hb2)
    have T2 := Lib.hid (T1.out.below hb2)
    have Z2 := Lib.hid (Z1.out.below hb2)
    have F2 := Lib.hid (F1.out.below hb2 Z1.out.lt)
    have U2 := Lib.hid (U1.out.trans (hb2.mono U1.out.size))
    clear hb2 P1 T1 Z1 F1 U1 t0 t1
    by_cases k2 : tkvd (x, y)
    · rw [decide_eq_true k2]
      have HV := Lib.hid (rtryv_yes (r := (n0, l)) (t := (x, y)) ⟨HK.out, k2⟩)
      clear k2
      obtain ⟨p0, p1⟩ := P2.out
      obtain ⟨t0, t1⟩ := T2.out
      go_wp2_with fail
      refine (stry_any n0 x y _ l w2 (HT.out.below U2.out) HNN.out HK.out).mono ?_
      rintro e w3 ⟨v3, rfl, hO3, hb3, _⟩
      obtain ⟨av, cv, rfl⟩ := ownsRow_shape hO3
      dsimp only at hO3 ⊢
      have Z3 := Lib.hid (Z2.out.below hb3)
      have F3 := Lib.hid (F2.out.below hb3 Z2.out.lt)
      have U3 := Lib.hid (U2.out.trans (hb3.mono U2.out.size))
      have O3 := Lib.hid (OwnTc.lower hO3 U2.out.size)
      have hne : Hid ((Value.slice av (rtry (n0, l) (x, y)).1.length cv).ownBlock ≠ some rb) := Lib.hid fun e => by have := (World.ownsRow.lt hO3 rb e).1; have := Z2.out.lt; omega
      clear hb3 hO3 p0 p1 t0 t1 P2 T2 Z2 F2 U2
      generalize (rtry (n0, l) (x, y)).1 = m at *
      generalize (rtry (n0, l) (x, y)).2 = q at *
      obtain ⟨z0, z1⟩ := Z3.out
      have f0 := F3.out 0
      have f1 := F3.out 1
      have KE := Lib.hid (reg_end (m := n0) U3.out Z3.out O3.out hne.out hrw.out)
      go_wp2_with fail
      generalize (w3.setCell ⟨rb, 0, none⟩ (.int .i64 n0)).setCell ⟨rb, 1, none⟩ (.slice av m.length cv) = WF at KE ⊢
      obtain ⟨k0, k1⟩ := KE.out.1
      refine bodyPost_ret (v := .tuple #[.agg #[.int .i64 n0, .slice av m.length cv], .bool q]) ?_ rfl ?_
      · rw [results_cell_tmp rfl]; go_simp
      · exact ⟨_, by rw [HV.out], by rw [HV.out]; exact KE.out.2.2, KE.out.2.1⟩
    · rw [decide_eq_false k2]
      have HR := Lib.hid (rtryv_no (r := (n0, l)) (t := (x, y)) fun h => k2 h.2)
      clear k2
      have KE := Lib.hid (reg_end (m := 0) U2.out Z2.out (OwnTc.nil w2 w.heap.size) (by simp [Value.ownBlock]) hrw.out)
      obtain ⟨z0, z1⟩ := Z2.out
      have f0 := F2.out 0
      have f1 := F2.out 1
      go_wp2_with fail
      generalize (w2.setCell ⟨rb, 0, none⟩ (.int .i64 0)).setCell ⟨rb, 1, none⟩ (.slice none 0 0) = WF at KE ⊢
      obtain ⟨k0, k1⟩ := KE.out.1
      refine bodyPost_ret (v := .tuple #[.agg #[.int .i64 0, .slice none 0 0], .bool false]) ?_ rfl ?_
      · rw [results_cell_tmp rfl]; go_simp
      · exact ⟨_, by rw [HR.out], by rw [HR.out]; exact KE.out.2.2, KE.out.2.1⟩
  · rw [decide_eq_false k1]
    have HR := Lib.hid (rtryv_no (r := (n0, l)) (t := (x, y)) fun h => k1 h.1)
    clear k1
    have KE := Lib.hid (reg_end (m := 0) U1.out Z1.out (OwnTc.nil w1 w.heap.size) (by simp [Value.ownBlock]) hrw.out)
    obtain ⟨z0, z1⟩ := Z1.out
    have f0 := F1.out 0
    have f1 := F1.out 1
    go_wp2_with fail
    generalize (w1.setCell ⟨rb, 0, none⟩ (.int .i64 0)).setCell ⟨rb, 1, none⟩ (.slice none 0 0) = WF at KE ⊢
    obtain ⟨k0, k1⟩ := KE.out.1
    refine bodyPost_ret (v := .tuple #[.agg #[.int .i64 0, .slice none 0 0], .bool false]) ?_ rfl ?_
    · rw [results_cell_tmp rfl]; go_simp
    · exact ⟨_, by rw [HR.out], by rw [HR.out]; exact KE.out.2.2, KE.out.2.1⟩

end Go.Proofs.Ytlhjhdlpejpooab
