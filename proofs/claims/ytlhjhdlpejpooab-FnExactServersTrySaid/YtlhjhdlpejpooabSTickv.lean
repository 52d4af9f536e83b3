/- The model's RegisterTick. -/
import Derived.Test.YtlhjhdlpejpooabSTick
namespace Go.Proofs.Ytlhjhdlpejpooab
open Go.RowKit
set_option linter.unusedVariables false
set_option linter.unusedSimpArgs false

/-- A register and a Bool come back. -/
def GotRgB (w : World) (r : Reg × Bool) (e : Ending) (w' : World) : Prop := ∃ v', e = .returned (.tuple #[.agg #[.int .i64 r.1.1, v'], .bool r.2]) ∧ OwnTc w' w.heap.size v' r.1.2 ∧ Below w.heap.size w w'
theorem OwnTc.nil (w : World) (B : Nat) : OwnTc w B (.slice none 0 0) [] := ⟨rfl, .inl ⟨rfl, rfl⟩⟩

/-- A register is laid into the result's variable. -/
theorem reg_end {w W : World} {rb : Nat} {n m : Int} {s v' : Value} {l : List Tic} (hb : Below w.heap.size w W) (Z : RgV W rb n s) (O : OwnTc W w.heap.size v' l) (hne : v'.ownBlock ≠ some rb) (hrw : w.heap.size ≤ rb) :
    RgV ((W.setCell ⟨rb, 0, none⟩ (.int .i64 m)).setCell ⟨rb, 1, none⟩ v') rb m v' ∧ Below w.heap.size w ((W.setCell ⟨rb, 0, none⟩ (.int .i64 m)).setCell ⟨rb, 1, none⟩ v') ∧ OwnTc ((W.setCell ⟨rb, 0, none⟩ (.int .i64 m)).setCell ⟨rb, 1, none⟩ v') w.heap.size v' l :=
  ⟨(Z.set0 m).set1 _, (hb.setCell (show w.heap.size ≤ rb from hrw) _).setCell (show w.heap.size ≤ rb from hrw) _, OwnTc.far (OwnTc.far O hne) hne⟩

set_option maxRecDepth 100000 in
set_option maxHeartbeats 4000000 in
theorem stickv_any (n0 now : Int) (v : Value) (l : List Tic) (w : World) (hs : Tics w v l) (hl : l.length ≤ 1048576) : Calls Try.prog 11 #[.agg #[.int .i64 n0, v], .int .i64 now] w (GotRgB w (rtickv (n0, l) now)) := by
  have HT := Lib.hid hs
  obtain ⟨a, c, rfl, hc⟩ := hs
  clear hc
  obtain ⟨W1, hW1⟩ : ∃ W1, W1 = (w.alloc (.cells #[.int .i64 n0, .slice a l.length c] 28)).alloc (.cells #[.int .i64 0, .slice none 0 0] 28) := ⟨_, rfl⟩
  have U1 : Below w.heap.size w W1 := by rw [hW1]; exact ((Below.refl _ _).alloc (Nat.le_refl _) _).alloc (by simp) _
  have P1 : RgV W1 w.heap.size n0 (.slice a l.length c) := by rw [hW1]; exact (RgV.new w n0 _ _).below ((Below.refl _ _).alloc (Nat.le_refl _) _)
  have Z1 : RgV W1 (w.heap.size + 1) 0 (.slice none 0 0) := by
    have e : (w.alloc (.cells #[.int .i64 n0, .slice a l.length c] 28)).heap.size = w.heap.size + 1 := by simp
    rw [hW1, ← e]; exact RgV.new _ 0 _ _
  have F1 : Soft W1 (w.heap.size + 1) := by
    have e : (w.alloc (.cells #[.int .i64 n0, .slice a l.length c] 28)).heap.size = w.heap.size + 1 := by simp
    rw [hW1, ← e]; exact Soft.new _ _ _
  have U1 := Lib.hid U1
  have P1 := Lib.hid P1
  have Z1 := Lib.hid Z1
  have F1 := Lib.hid F1
  have hZb : Hid (w.heap.size < w.heap.size + 1) := Lib.hid (by omega)
  go_enter Try.func11, Try.ntmps11
  go_wp2_with fail
  rw [← hW1]
  clear hW1
  generalize w.heap.size + 1 = rb at Z1 F1 hZb ⊢
  refine (sreg_any n0 _ l _ (HT.out.below U1.out) hl).mono ?_
  rintro e w2 ⟨rfl, hb2⟩
  have P2 := Lib.hid (P1.out.below hb2)
  have Z2 := Lib.hid (Z1.out.below hb2)
  have F2 := Lib.hid (F1.out.below hb2 Z1.out.lt)
  have U2 := Lib.hid (U1.out.trans (hb2.mono U1.out.size))
  clear hb2 P1 Z1 F1 U1
  have hrw : Hid (w.heap.size ≤ rb) := Lib.hid (by have := hZb.out; omega)
  by_cases k1 : regok (n0, l)
  · rw [decide_eq_true k1]
    by_cases k2 : n0 ≤ now ∧ now ≤ 999
    · have HR := Lib.hid (rtickv_yes (r := (n0, l)) (n := now) ⟨k1, k2⟩)
      have hnow : 0 ≤ now ∧ now ≤ 999 := ⟨by have : 0 ≤ n0 := k1.1.1; omega, k2.2⟩
      have C2 : Hid (∀ W : World, Calls Try.prog 39 #[.int .i64 now, .int .i64 n0, .int .i64 999] W fun e w' => e = .returned (.bool true) ∧ W = w') := Lib.hid fun W => by have h := l6In_any now n0 999 W; rw [decide_eq_true k2] at h; exact h
      have HN := Lib.hid hnow
      clear k1 k2 hnow
      obtain ⟨p0, p1⟩ := P2.out
      go_wp2_with (go_at_call 39; (with_reducible refine (C2.out _).mono ?_); rintro e w2 ⟨rfl, rfl⟩)
      refine (stick_any n0 now _ l _ (HT.out.below U2.out) hl HN.out).mono ?_
      rintro e w3 ⟨v', rfl, hO, hb3⟩
      have Z3 := Lib.hid (Z2.out.below hb3)
      have F3 := Lib.hid (F2.out.below hb3 Z2.out.lt)
      have U3 := Lib.hid (U2.out.trans (hb3.mono U2.out.size))
      have hO2 := Lib.hid (OwnTc.lower hO U2.out.size)
      have hne : Hid (v'.ownBlock ≠ some rb) := Lib.hid fun e => by have := (World.ownsRow.lt hO rb e).1; have := Z2.out.lt; omega
      clear hO hb3 p0 p1
      obtain ⟨z0, z1⟩ := Z3.out
      have f0 := F3.out 0
      have f1 := F3.out 1
      obtain ⟨av, cv, rfl⟩ := ownsRow_shape hO2.out
      dsimp only
      have KE := Lib.hid (reg_end (m := now) U3.out Z3.out hO2.out hne.out hrw.out)
      go_wp2_with fail
      generalize (w3.setCell ⟨rb, 0, none⟩ (.int .i64 now)).setCell ⟨rb, 1, none⟩ (.slice av (tick now l).length cv) = WF at KE ⊢
      obtain ⟨k0, k1⟩ := KE.out.1
      refine bodyPost_ret (v := .tuple #[.agg #[.int .i64 now, .slice av (tick now l).length cv], .bool true]) ?hr rfl ?_
      case hr => rw [results_cell_tmp rfl]; go_simp
      exact ⟨_, by rw [HR.out], by rw [HR.out]; exact KE.out.2.2, KE.out.2.1⟩
    · have HR := Lib.hid (rtickv_no (r := (n0, l)) (n := now) fun h => k2 h.2)
      have C2 : Hid (∀ W : World, Calls Try.prog 39 #[.int .i64 now, .int .i64 n0, .int .i64 999] W fun e w' => e = .returned (.bool false) ∧ W = w') := Lib.hid fun W => by have h := l6In_any now n0 999 W; rw [decide_eq_false k2] at h; exact h
      clear k1 k2
      obtain ⟨p0, p1⟩ := P2.out
      obtain ⟨z0, z1⟩ := Z2.out
      have f0 := F2.out 0
      have f1 := F2.out 1
      have KE := Lib.hid (reg_end (m := 0) U2.out Z2.out (OwnTc.nil w2 w.heap.size) (by simp [Value.ownBlock]) hrw.out)
      go_wp2_with (go_at_call 39; (with_reducible refine (C2.out _).mono ?_); rintro e w2 ⟨rfl, rfl⟩)
      generalize (w2.setCell ⟨rb, 0, none⟩ (.int .i64 0)).setCell ⟨rb, 1, none⟩ (.slice none 0 0) = WF at KE ⊢
      obtain ⟨k0, k1⟩ := KE.out.1
      refine bodyPost_ret (v := .tuple #[.agg #[.int .i64 0, .slice none 0 0], .bool false]) ?hr rfl ?_
      case hr => rw [results_cell_tmp rfl]; go_simp
      exact ⟨_, by rw [HR.out], by rw [HR.out]; exact KE.out.2.2, KE.out.2.1⟩
  · rw [decide_eq_false k1]
    have HR := Lib.hid (rtickv_no (r := (n0, l)) (n := now) fun h => k1 h.1)
    clear k1
    obtain ⟨p0, p1⟩ := P2.out
    obtain ⟨z0, z1⟩ := Z2.out
    have f0 := F2.out 0
    have f1 := F2.out 1
    have KE := Lib.hid (reg_end (m := 0) U2.out Z2.out (OwnTc.nil w2 w.heap.size) (by simp [Value.ownBlock]) hrw.out)
    go_wp2_with fail
    generalize (w2.setCell ⟨rb, 0, none⟩ (.int .i64 0)).setCell ⟨rb, 1, none⟩ (.slice none 0 0) = WF at KE ⊢
    obtain ⟨k0, k1⟩ := KE.out.1
    refine bodyPost_ret (v := .tuple #[.agg #[.int .i64 0, .slice none 0 0], .bool false]) ?hr rfl ?_
    case hr => rw [results_cell_tmp rfl]; go_simp
    exact ⟨_, by rw [HR.out], by rw [HR.out]; exact KE.out.2.2, KE.out.2.1⟩

end Go.Proofs.Ytlhjhdlpejpooab
