/- The program's LossValid. -/
import Derived.Test.YtccolpaenmebeaaPk
import Derived.Test.YtccolpaenmebeaaUp
import Derived.Deep.CutBlock
import Derived.BigRegion
namespace Go.Proofs.Ytccolpaenmebeaa
open Go.RowKit
set_option linter.unusedVariables false
set_option linter.unusedSimpArgs false

set_option maxRecDepth 100000 in
set_option maxHeartbeats 1000000 in
theorem isSize_any (n : Int) (w : World) : Calls Try.prog 40 #[.int .i64 n] w fun e w' => e = .returned (.bool (decide (1 ≤ n ∧ n ≤ 99))) ∧ w = w' := by
  by_cases h0 : 1 ≤ n
  · by_cases h1 : n ≤ 99
    · have d0 := decide_eq_true h0
      have d1 := decide_eq_true h1
      go_enter Try.func40, Try.ntmps40
      go_wp2
      go_ret
      exact ⟨ret_bool (decide_eq_true ⟨h0, h1⟩).symm, rfl⟩
    · have d0 := decide_eq_true h0
      have d1 := decide_eq_false h1
      go_enter Try.func40, Try.ntmps40
      go_wp2
      go_ret
      exact ⟨ret_bool (by first | rfl | (symm; simp; omega)), rfl⟩
  · have d0 := decide_eq_false h0
    go_enter Try.func40, Try.ntmps40
    go_wp2
    go_ret
    exact ⟨ret_bool (by first | rfl | (symm; simp; omega)), rfl⟩

/-- What the program's loop has seen: the packets so far, the next lowest number, the earliest time. -/
def SeenQ (n g : Int) (l : List Pk) (j : Nat) (lo ea : Int) : Prop :=
  (∀ t ∈ l.take j, pkok n g t) ∧ (l.take j).Pairwise PL ∧ 0 ≤ lo ∧ 0 ≤ ea ∧ lo ≤ 1000 ∧ ea ≤ 999 ∧ (0 < j → lo = (l.getD (j - 1) pkD).1 + 1 ∧ ea = (l.getD (j - 1) pkD).2.1) ∧ (j = 0 → lo = 0 ∧ ea = 0)
theorem SeenQ.zero (n g : Int) (l : List Pk) : SeenQ n g l 0 0 0 := ⟨by simp, by simp, by omega, by omega, by omega, by omega, by omega, fun _ => ⟨rfl, rfl⟩⟩
theorem SeenQ.succ {n g lo ea : Int} {l : List Pk} {j : Nat} {x1 x2 x3 : Int} (h : SeenQ n g l j lo ea) (hj : j < l.length) (hx : l.getD j pkD = (x1, x2, x3)) (hn : n ≤ 1000) (h1 : lo ≤ x1) (h2 : x1 < n) (h3 : x1 ≠ g) (h4 : ea ≤ x2) (h5 : x2 ≤ 999) (h6 : 1 ≤ x3 ∧ x3 ≤ 99) : SeenQ n g l (j + 1) (x1 + 1) x2 := by
  obtain ⟨k1, k2, k3, k4, k5, k6, k7, k8⟩ := h
  have ht := (takeP l j hj).1
  rw [hx] at ht
  refine ⟨fun t hh => ?_, ?_, by omega, by omega, by omega, by omega, fun _ => ?_, by omega⟩
  · rw [ht] at hh
    rcases List.mem_append.1 hh with hh | hh
    · exact k1 t hh
    · rw [List.mem_singleton] at hh
      subst hh
      exact ⟨⟨by show 0 ≤ x1; omega, by show x1 ≤ n - 1; omega⟩, ⟨by show 0 ≤ x2; omega, h5⟩, h6, h3⟩
  · rw [ht]
    refine List.pairwise_append.2 ⟨k2, List.pairwise_singleton _ _, fun p hp q hq => ?_⟩
    rw [List.mem_singleton] at hq
    subst hq
    have hj0 : 0 < j := by
      rcases Nat.eq_zero_or_pos j with e | e
      · subst e; simp at hp
      · exact e
    obtain ⟨m1, m2⟩ := k7 hj0
    have hlast : (l.take j).Pairwise PL := k2
    -- p lies before the last one, or is it
    obtain ⟨i, hi, rfl⟩ := List.mem_iff_getElem.1 hp
    have hi' : i < j := by rw [List.length_take] at hi; omega
    have e1 : (l.take j)[i] = l[i]'(by omega) := by simp
    have e2 : l.getD (j - 1) pkD = l[j - 1]'(by omega) := by rw [List.getD_eq_getElem?_getD, List.getElem?_eq_getElem (by omega)]; rfl
    rw [e2] at m1 m2
    have hle : l[i].1 ≤ l[j - 1].1 ∧ l[i].2.1 ≤ l[j - 1].2.1 := by
      rcases (by omega : i = j - 1 ∨ i < j - 1) with e | e
      · subst e; exact ⟨Int.le_refl _, Int.le_refl _⟩
      · have := List.pairwise_iff_getElem.1 k2 i (j - 1) hi (by rw [List.length_take]; omega) e
        simp at this
        exact ⟨Int.le_of_lt this.1, this.2⟩
    rw [e1]
    exact ⟨by show l[i].1 < x1; omega, by show l[i].2.1 ≤ x2; omega⟩
  · rw [Nat.add_sub_cancel, hx]; exact ⟨rfl, rfl⟩
theorem SeenQ.done {n g lo ea : Int} {l : List Pk} (h : SeenQ n g l l.length lo ea) (h1 : 0 ≤ n ∧ n ≤ 1000) (h2 : -1 ≤ g ∧ g ≤ n - 1) (h3 : l.length ≤ 12) : lok (n, l, g) := by
  obtain ⟨k1, k2, _⟩ := h
  rw [List.take_length] at k1 k2
  exact ⟨h1, h2, h3, k1, k2⟩
theorem SeenQ.bad {n g lo ea : Int} {l : List Pk} {j : Nat} {x1 x2 x3 : Int} (h : SeenQ n g l j lo ea) (hj : j < l.length) (hx : l.getD j pkD = (x1, x2, x3)) (hb : ¬ (lo ≤ x1 ∧ x1 < n ∧ x1 ≠ g ∧ ea ≤ x2 ∧ x2 ≤ 999 ∧ (1 ≤ x3 ∧ x3 ≤ 99))) : ¬ lok (n, l, g) := by
  rintro ⟨a1, a2, a3, a4, a5⟩
  simp only at a1 a2 a3 a4 a5
  obtain ⟨k1, k2, k3, k4, k5, k6, k7, k8⟩ := h
  have hm := a4 _ (takeP l j hj).2
  rw [hx] at hm
  obtain ⟨⟨b1, b2⟩, ⟨b3, b4⟩, b5, b6⟩ := hm
  simp only at b1 b2 b3 b4 b5 b6
  apply hb
  rcases Nat.eq_zero_or_pos j with e | e
  · obtain ⟨c1, c2⟩ := k8 e
    exact ⟨by omega, by omega, b6, by omega, by omega, b5⟩
  · obtain ⟨c1, c2⟩ := k7 e
    have := adj_of_pl a5 (j - 1) (by omega)
    rw [show j - 1 + 1 = j from by omega, hx] at this
    obtain ⟨d1, d2⟩ := this
    simp only at d1 d2
    exact ⟨by omega, by omega, b6, by omega, by omega, b5⟩



set_option maxRecDepth 100000 in
set_option maxHeartbeats 4000000 in
theorem ilval_any (n g : Int) (v : Value) (l : List Pk) (w : World) (hs : Pks w v l) (hl : l.length ≤ 1048576) : Calls Try.prog 17 #[.agg #[.int .i64 n, v, .int .i64 g]] w fun e w' => e = .returned (.bool (decide (lok (n, l, g)))) ∧ Below w.heap.size w w' := by
  have HS := Lib.hid hs
  obtain ⟨a, c, rfl, hcc, hs⟩ := hs
  have HC := Lib.hid hs
  clear hs hcc
  have X := Lib.hid (C3.new w (.int .i64 n) (.slice a l.length c) (.int .i64 g) 24)
  have B := Lib.hid ((Below.refl w.heap.size w).alloc (Nat.le_refl _) (.cells #[.int .i64 n, .slice a l.length c, .int .i64 g] 24))
  obtain ⟨x0, x1, x2⟩ := X.out
  have HU := Lib.hid (upTo_any n 1000 (w.alloc (.cells #[.int .i64 n, .slice a l.length c, .int .i64 g] 24)))
  by_cases k1 : 0 ≤ n ∧ n ≤ 1000
  case neg =>
    rw [decide_eq_false k1] at HU
    have HF : Hid (decide (lok (n, l, g)) = false) := Lib.hid (decide_eq_false fun h => k1 h.1)
    clear k1
    go_enter Try.func17, Try.ntmps17
    go_wp2_with fail
    refine HU.out.mono ?_
    rintro e w1 ⟨rfl, hw⟩
    rw [← hw]
    clear hw
    go_wp2_with fail
    go_ret
    exact ⟨ret_bool HF.out.symm, B.out⟩
  rw [decide_eq_true k1] at HU
  obtain ⟨n1, n2⟩ := k1
  by_cases k2 : g < -1
  case pos =>
    have HF : Hid (decide (lok (n, l, g)) = false) := Lib.hid (decide_eq_false fun h => by have := h.2.1.1; simp only at this; omega)
    have hd := decide_eq_true k2
    go_enter Try.func17, Try.ntmps17
    go_wp2_with fail
    refine HU.out.mono ?_
    rintro e w1 ⟨rfl, hw⟩
    rw [← hw]
    clear hw
    go_wp2_with fail
    go_ret
    exact ⟨ret_bool HF.out.symm, B.out⟩
  have hd2 := decide_eq_false k2
  by_cases k3 : n ≤ g
  case pos =>
    have HF : Hid (decide (lok (n, l, g)) = false) := Lib.hid (decide_eq_false fun h => by have := h.2.1.2; simp only at this; omega)
    have hd := decide_eq_true k3
    go_enter Try.func17, Try.ntmps17
    go_wp2_with fail
    refine HU.out.mono ?_
    rintro e w1 ⟨rfl, hw⟩
    rw [← hw]
    clear hw
    go_wp2_with fail
    go_ret
    exact ⟨ret_bool HF.out.symm, B.out⟩
  have hd3 := decide_eq_false k3
  by_cases k4 : 12 < l.length
  case pos =>
    have HF : Hid (decide (lok (n, l, g)) = false) := Lib.hid (decide_eq_false fun h => by have := h.2.2.1; simp only at this; omega)
    have hd : decide ((12 : Int) < (l.length : Int)) = true := decide_eq_true (by omega)
    have hd' := decide_eq_true k4
    go_enter Try.func17, Try.ntmps17
    go_wp2_with fail
    refine HU.out.mono ?_
    rintro e w1 ⟨rfl, hw⟩
    rw [← hw]
    clear hw
    go_wp2_with fail
    go_ret
    exact ⟨ret_bool HF.out.symm, B.out⟩
  have hd4 : decide ((12 : Int) < (l.length : Int)) = false := decide_eq_false (by omega)
  have hd4' := decide_eq_false k4
  go_enter Try.func17, Try.ntmps17
  go_wp2_with fail
  refine HU.out.mono ?_
  rintro e w1 ⟨rfl, hw⟩
  rw [← hw]
  clear hw
  go_wp2_with fail
  clear hd2 hd3 hd4 hd4' x0 x1 x2 HU
  go_loopw [3, 4, 32] (fun lv ev iv wr => ∃ (j : Nat) (lo ea : Int), j ≤ l.length ∧ iv = .int .i64 (j : Int) ∧ lv = .int .i64 lo ∧ ev = .int .i64 ea ∧ Hid (SeenQ n g l j lo ea) ∧ Hid (Below w.heap.size w wr) ∧ Hid (C3 wr w.heap.size (.int .i64 n) (.slice a l.length c) (.int .i64 g))) (fun _ _ iv _ => l.length - (intOf iv).toNat)
  case atStart => exact ⟨0, 0, 0, Nat.zero_le _, rfl, rfl, rfl, Lib.hid (SeenQ.zero n g l), B, X⟩
  case round =>
    obtain ⟨j, lo, ea, hj, rfl, rfl, rfl, HQ, HB, HX⟩ := hrel
    by_cases hlt : j < l.length
    case neg =>
      have hlt' : ¬ ((j : Int) < (l.length : Int)) := by omega
      have hjl : j = l.length := by omega
      have hd : decide ((j : Int) < (l.length : Int)) = false := decide_eq_false hlt'
      have HE : Hid (decide (lok (n, l, g)) = true) := Lib.hid (decide_eq_true ((show SeenQ n g l l.length lo ea by rw [← hjl]; exact HQ.out).done ⟨n1, n2⟩ (by omega) (by omega)))
      clear hjl k2 k3 k4
      go_wp2_with fail
      go_ret
      exact ⟨ret_bool HE.out.symm, HB.out⟩
    have hlt' : (j : Int) < (l.length : Int) := by omega
    obtain ⟨gb, o, rfl, hc⟩ := HC.out (by rintro rfl; simp at hlt)
    obtain ⟨d0, d1, d2⟩ := hc j hlt
    have hg := World.block_lt_of_cell? w _ d0
    have e0 := (HB.out.cell (p := ⟨gb, o + j * 3, none⟩) hg).trans d0
    have e1 := (HB.out.cell (p := ⟨gb, o + j * 3 + 1, none⟩) hg).trans d1
    have e2 := (HB.out.cell (p := ⟨gb, o + j * 3 + 2, none⟩) hg).trans d2
    obtain ⟨x, hx⟩ : ∃ x, l.getD j pkD = x := ⟨_, rfl⟩
    rw [hx] at e0 e1 e2
    obtain ⟨z1, z2, z3⟩ := x
    simp only at e0 e1 e2
    have HXX := Lib.hid hx
    obtain ⟨W2, hW2⟩ : ∃ W2, wr.alloc (.cells #[.int .i64 z1, .int .i64 z2, .int .i64 z3] 57) = W2 := ⟨_, rfl⟩
    have HW2 := Lib.hid hW2
    have B2 := Lib.hid (show Below w.heap.size w W2 by rw [← hW2]; exact HB.out.alloc HB.out.size _)
    have X2 := Lib.hid (show C3 W2 w.heap.size (.int .i64 n) (.slice (some ⟨gb, o, none⟩) l.length c) (.int .i64 g) by rw [← hW2]; exact HX.out.alloc _)
    have P2 := Lib.hid (show C3 W2 wr.heap.size (.int .i64 z1) (.int .i64 z2) (.int .i64 z3) by rw [← hW2]; exact C3.new wr _ _ _ _)
    have hw2 : IntKind.i64.wrap ((j : Int) + 1) = ((j + 1 : Nat) : Int) := by rw [IntWalk.i64_in _ (by omega)]; omega
    have HSZ := Lib.hid (isSize_any z3)
    clear d0 d1 d2 hc hx hW2 k2 k3 k4
    have hbad : Hid (¬ (lo ≤ z1 ∧ z1 < n ∧ z1 ≠ g ∧ ea ≤ z2 ∧ z2 ≤ 999 ∧ (1 ≤ z3 ∧ z3 ≤ 99)) → decide (lok (n, l, g)) = false) := Lib.hid fun h => decide_eq_false (HQ.out.bad hlt HXX.out h)
    obtain ⟨p0, p1, p2⟩ := P2.out
    obtain ⟨y0, y1, y2⟩ := X2.out
    by_cases q1 : z1 < lo
    case pos =>
      have hd := decide_eq_true q1
      have HE := Lib.hid (hbad.out (by omega))
      go_upto_region 7 with fail
      rw [HW2.out]
      go_wp2_with fail
      go_ret
      exact ⟨ret_bool HE.out.symm, B2.out⟩
    have q1d := decide_eq_false q1
    by_cases q2 : n ≤ z1
    case pos =>
      have hd := decide_eq_true q2
      have HE := Lib.hid (hbad.out (by omega))
      go_upto_region 7 with fail
      rw [HW2.out]
      go_wp2_with fail
      go_ret
      exact ⟨ret_bool HE.out.symm, B2.out⟩
    have q2d := decide_eq_false q2
    by_cases q3 : z1 = g
    case pos =>
      have hd := decide_eq_true q3
      have hd' : (z1 == g) = true := by simp [q3]
      have HE := Lib.hid (hbad.out (by omega))
      clear q3
      go_upto_region 7 with fail
      rw [HW2.out]
      go_wp2_with fail
      go_ret
      exact ⟨ret_bool HE.out.symm, B2.out⟩
    have q3d := decide_eq_false q3
    have q3b : (z1 == g) = false := by simp [q3]
    by_cases q4 : z2 < ea
    case pos =>
      have hd := decide_eq_true q4
      have HE := Lib.hid (hbad.out (by omega))
      go_upto_region 7 with fail
      rw [HW2.out]
      go_wp2_with fail
      go_ret
      exact ⟨ret_bool HE.out.symm, B2.out⟩
    have q4d := decide_eq_false q4
    by_cases q5 : 999 < z2
    case pos =>
      have hd := decide_eq_true q5
      have HE := Lib.hid (hbad.out (by omega))
      go_upto_region 7 with fail
      rw [HW2.out]
      go_wp2_with fail
      go_ret
      exact ⟨ret_bool HE.out.symm, B2.out⟩
    have q5d := decide_eq_false q5
    by_cases q6 : 1 ≤ z3 ∧ z3 ≤ 99
    case neg =>
      have HE := Lib.hid (hbad.out (by omega))
      have HZ := Lib.hid (decide_eq_false q6)
      clear q6
      go_upto_region 7 with fail
      rw [HW2.out]
      go_wp2_with fail
      refine (HSZ.out _).mono ?_
      rw [HZ.out]
      rintro e w3 ⟨rfl, hw⟩
      rw [← hw]
      clear hw
      go_wp2_with fail
      go_ret
      exact ⟨ret_bool HE.out.symm, B2.out⟩
    have HZ := Lib.hid (decide_eq_true q6)
    have HQ2 := Lib.hid (HQ.out.succ hlt HXX.out n2 (by omega) (by omega) q3 (by omega) (by omega) q6)
    have hz : IntKind.i64.wrap (z1 + 1) = z1 + 1 := IntWalk.i64_in _ (by have := HQ.out.2.2.1; omega)
    clear q6
    go_upto_region 7 with fail
    rw [HW2.out]
    go_wp2_with fail
    refine (HSZ.out _).mono ?_
    rw [HZ.out]
    rintro e w3 ⟨rfl, hw⟩
    rw [← hw]
    clear hw
    go_wp2_with fail
    go_region
    have B3 := Lib.hid (B2.out.drew)
    have X3 := Lib.hid (X2.out.drew)
    clear B2 X2 P2
    go_wp2_with fail
    go_roundw
    case rel => exact ⟨j + 1, _, _, hlt, by go_num, rfl, rfl, HQ2, B3, X3⟩
    case measure => simp [intOf]; omega

end Go.Proofs.Ytccolpaenmebeaa
