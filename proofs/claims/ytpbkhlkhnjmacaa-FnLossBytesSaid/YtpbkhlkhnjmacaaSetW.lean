/- The drawn sets: l91Set at a bound that may pass the largest number. -/
import Derived.Test.YtpbkhlkhnjmacaaAdd
import Derived.Test.YtpbkhlkhnjmacaaRdr
namespace Go.Proofs.Ytpbkhlkhnjmacaa
open Go.RowKit
set_option linter.unusedVariables false
set_option linter.unusedSimpArgs false

/-- Numbers that are small. -/
def WB (l : List (Int × Int)) : Prop := ∀ r ∈ l, (0 ≤ r.1 ∧ r.1 ≤ 2000) ∧ (0 ≤ r.2 ∧ r.2 ≤ 2000)
theorem WB.nil : WB [] := fun r h => by cases h
theorem WB.bnd {l : List (Int × Int)} (h : WB l) : ∀ r ∈ l, bnd r.1 ∧ bnd r.2 := fun r hr => by
  obtain ⟨⟨a, b⟩, c, d⟩ := h r hr
  exact ⟨⟨by omega, by omega⟩, ⟨by omega, by omega⟩⟩
theorem fold_weak : ∀ (l out : List (Int × Int)) (put : Bool) (lo hi : Int), WB l → WB out → (0 ≤ lo ∧ lo ≤ 2000) → (0 ≤ hi ∧ hi ≤ 2000) →
    WB (addEnd (l.foldl addStep (out, put, lo, hi))) ∧ (addEnd (l.foldl addStep (out, put, lo, hi))).length ≤ out.length + l.length + (if put then 0 else 1)
  | [], out, put, lo, hi, _, ho, h1, h2 => by
    cases put
    · refine ⟨fun r hr => ?_, by simp [addEnd]⟩
      simp only [List.foldl_nil, addEnd, Bool.false_eq_true, if_false] at hr
      rcases List.mem_append.1 hr with hr | hr
      · exact ho r hr
      · rw [List.mem_singleton] at hr; subst hr; exact ⟨h1, h2⟩
    · exact ⟨by simpa [addEnd] using ho, by simp [addEnd]⟩
  | q :: t, out, put, lo, hi, hl, ho, h1, h2 => by
    have ht : WB t := fun r hr => hl r (List.mem_cons_of_mem _ hr)
    obtain ⟨q1, q2⟩ := hl q (List.mem_cons_self ..)
    have ho1 : WB (out ++ [q]) := fun r hr => by
      rcases List.mem_append.1 hr with hr | hr
      · exact ho r hr
      · rw [List.mem_singleton] at hr; subst hr; exact ⟨q1, q2⟩
    have ho2 : WB (out ++ [(lo, hi)] ++ [q]) := fun r hr => by
      rcases List.mem_append.1 hr with hr | hr
      · rcases List.mem_append.1 hr with hr | hr
        · exact ho r hr
        · rw [List.mem_singleton] at hr; subst hr; exact ⟨h1, h2⟩
      · rw [List.mem_singleton] at hr; subst hr; exact ⟨q1, q2⟩
    rw [List.foldl_cons]
    by_cases c1 : q.2 < lo - 1
    · have e : addStep (out, put, lo, hi) q = (out ++ [q], put, lo, hi) := by unfold addStep; simp [c1]
      rw [e]
      obtain ⟨k1, k2⟩ := fold_weak t (out ++ [q]) put lo hi ht ho1 h1 h2
      exact ⟨k1, by simp at k2 ⊢; omega⟩
    · by_cases c2 : hi + 1 < q.1
      · cases put
        · have e : addStep (out, false, lo, hi) q = (out ++ [(lo, hi)] ++ [q], true, lo, hi) := by unfold addStep; simp [c1, c2]
          rw [e]
          obtain ⟨k1, k2⟩ := fold_weak t (out ++ [(lo, hi)] ++ [q]) true lo hi ht ho2 h1 h2
          exact ⟨k1, by simp at k2 ⊢; omega⟩
        · have e : addStep (out, true, lo, hi) q = (out ++ [q], true, lo, hi) := by unfold addStep; simp [c1, c2]
          rw [e]
          obtain ⟨k1, k2⟩ := fold_weak t (out ++ [q]) true lo hi ht ho1 h1 h2
          exact ⟨k1, by simp at k2 ⊢; omega⟩
      · have e : addStep (out, put, lo, hi) q = (out, put, min lo q.1, max hi q.2) := by unfold addStep; simp [c1, c2]
        rw [e]
        obtain ⟨k1, k2⟩ := fold_weak t out put (min lo q.1) (max hi q.2) ht ho (by omega) (by omega)
        exact ⟨k1, by simp at k2 ⊢; omega⟩
theorem add_weak (l : List (Int × Int)) (lo hi : Int) (h : WB l) (h0 : 0 ≤ lo) (h1 : lo ≤ hi) (h2 : hi ≤ 2000) : WB (ladd l lo hi) ∧ (ladd l lo hi).length ≤ l.length + 1 := by
  obtain ⟨k1, k2⟩ := fold_weak l [] false lo hi h WB.nil ⟨h0, by omega⟩ ⟨by omega, h2⟩
  exact ⟨k1, by unfold ladd; simpa using k2⟩
/-- A drawn list: only the reader moves on. -/
def DrewRw (P : List (Int × Int) → Prop) (w : World) (b k s : Nat) (e : Ending) (w' : World) : Prop :=
  ∃ (v : Value) (l : List (Int × Int)), P l ∧ e = .returned v ∧ w.grownBy w' (some b) ∧ Rdr w' b (k + s) ∧ OwnRg w' w.heap.size v l ∧ v ≠ .slice none 0 0

set_option maxRecDepth 100000 in
set_option maxHeartbeats 1000000 in
theorem setw_any (b k : Nat) (bound : Int) (w : World) (R : Rdr w b k) (hk : k ≤ 700000) (hb1 : 1 ≤ bound) (hb2 : bound ≤ 1100) :
    Calls Try.prog 48 #[.pointer (some ⟨b, 0, none⟩), .int .i64 bound] w (DrewRw (fun l => WB l ∧ l.length ≤ 5) w b k 20) := by
  have hbl := R.1
  have R0 := Lib.hid (R.below ((Below.refl _ _).alloc (Nat.le_refl _) (.cells #[] 48)))
  clear R
  go_enter Try.func48, Try.ntmps48
  go_wp2_with fail
  go_loopw [5, 6] (fun ov iv wr => ∃ (j : Nat) (l : List (Int × Int)), j ≤ 5 ∧ iv = .int .i64 j ∧ Hid (WB l ∧ l.length ≤ j) ∧ Rdr wr b (k + 3 * j) ∧ OwnRg wr w.heap.size ov l ∧ ov ≠ .slice none 0 0 ∧ w.grownBy wr (some b)) (fun _ iv _ => 6 - (intOf iv).toNat)
  case atStart => exact ⟨0, [], by omega, rfl, ⟨WB.nil, by simp⟩, R0.out, own_new _ _ _ _ (Nat.le_refl _), by simp, World.grownBy_alloc _ _ _⟩
  case round =>
    obtain ⟨j, l, hj, rfl, HL, hR, ho, hnn, hg⟩ := hrel
    have HO := Lib.hid ho
    have HN := Lib.hid hnn
    have HG := Lib.hid hg
    clear ho hnn hg
    go_wp2_with fail
    refine (pick_rdr b _ _ _ hR (by omega) (by omega) (by omega)).mono ?_
    rintro e w1 ⟨x, hx, rfl, hg1, hR1⟩
    have HG1 := Lib.hid (HG.out.trans hg1)
    have HO1 := Lib.hid (HO.out.picked hg1 hbl)
    clear hg1
    by_cases hlt : j < x
    · have hlt' : (j : Int) < (x : Int) := by omega
      have hj5 : j < 5 := by omega
      go_wp2_with fail
      refine (pick_rdr b _ _ _ hR1 (by omega) (by omega) (by omega)).mono ?_
      rintro e w2 ⟨y, hy, rfl, hg2, hR2⟩
      have HG2 := Lib.hid (HG1.out.trans hg2)
      have HO2 := Lib.hid (HO1.out.picked hg2 hbl)
      clear hg2
      go_wp2_with fail
      refine (pick_rdr b _ _ _ hR2 (by omega) (by omega) (by omega)).mono ?_
      rintro e w3 ⟨z, hz, rfl, hg3, hR3⟩
      have HG3 := Lib.hid (HG2.out.trans hg3)
      have HO3 := Lib.hid (HO2.out.picked hg3 hbl)
      clear hg3
      obtain ⟨hv, hll⟩ := HL.out
      have HV := Lib.hid hv
      clear hv
      have hyb : (y : Int) < bound := hy
      have hz4 : (z : Int) < 4 := hz
      by_cases hm : bound - 1 < (y : Int) + (z : Int)
      · go_wp2_with fail
        refine (sadd_any _ l (y : Int) (bound - 1) w3 (Rngs.of_own HO3.out) (by omega) ⟨by omega, by omega⟩ ⟨by omega, by omega⟩ HV.out.bnd).mono ?_
        rintro e w4 ⟨v4, rfl, hb4, ho4, hn4⟩
        have HV4 := Lib.hid (add_weak l (y : Int) (bound - 1) HV.out (by omega) (by omega) (by omega))
        have HG4 := Lib.hid (Lib.grownBy_below HG3.out hb4)
        have HR4 := Lib.hid (hR3.below hb4)
        have HO4 := Lib.hid (ho4.lower HG3.out.size)
        have HN4 := Lib.hid hn4
        clear hb4 ho4 hn4
        go_wp2_with fail
        go_roundw
        case rel => exact ⟨j + 1, ladd l (y : Int) (bound - 1), by omega, by go_num, ⟨HV4.out.1, Nat.le_trans HV4.out.2 (by omega)⟩, HR4.out.le (by omega), HO4.out, HN4.out, HG4.out⟩
        case measure => simp [intOf]; omega
      · go_wp2_with fail
        refine (sadd_any _ l (y : Int) ((y : Int) + (z : Int)) w3 (Rngs.of_own HO3.out) (by omega) ⟨by omega, by omega⟩ ⟨by omega, by omega⟩ HV.out.bnd).mono ?_
        rintro e w4 ⟨v4, rfl, hb4, ho4, hn4⟩
        have HV4 := Lib.hid (add_weak l (y : Int) ((y : Int) + (z : Int)) HV.out (by omega) (by omega) (by omega))
        have HG4 := Lib.hid (Lib.grownBy_below HG3.out hb4)
        have HR4 := Lib.hid (hR3.below hb4)
        have HO4 := Lib.hid (ho4.lower HG3.out.size)
        have HN4 := Lib.hid hn4
        clear hb4 ho4 hn4
        go_wp2_with fail
        go_roundw
        case rel => exact ⟨j + 1, ladd l (y : Int) ((y : Int) + (z : Int)), by omega, by go_num, ⟨HV4.out.1, Nat.le_trans HV4.out.2 (by omega)⟩, HR4.out.le (by omega), HO4.out, HN4.out, HG4.out⟩
        case measure => simp [intOf]; omega
    · have hlt' : ¬ (j : Int) < (x : Int) := by omega
      go_wp2_with fail
      go_ret
      exact ⟨_, l, ⟨HL.out.1, by have := HL.out.2; omega⟩, rfl, HG1.out, hR1.le (by omega), HO1.out, HN.out⟩

end Go.Proofs.Ytpbkhlkhnjmacaa
