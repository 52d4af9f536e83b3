/- The program's lastNumber, isLossDelay, isLost, and LossAck's two function literals. -/
import Derived.Test.YtccolpaenmebeaaIVm
import Derived.Test.YtccolpaenmebeaaLaMath
import Derived.Test.YtccolpaenmebeaaIHas
namespace Go.Proofs.Ytccolpaenmebeaa
open Go.RowKit
set_option linter.unusedVariables false
set_option linter.unusedSimpArgs false

set_option maxRecDepth 100000 in
set_option maxHeartbeats 1000000 in
theorem isDelay_any (n : Int) (w : World) : Calls Try.prog 51 #[.int .i64 n] w fun e w' => e = .returned (.bool (decide (1 ≤ n ∧ n ≤ 1998))) ∧ w = w' := by
  by_cases h0 : 1 ≤ n
  · by_cases h1 : n ≤ 1998
    · have d0 := decide_eq_true h0
      have d1 := decide_eq_true h1
      go_enter Try.func51, Try.ntmps51
      go_wp2
      go_ret
      exact ⟨ret_bool (decide_eq_true ⟨h0, h1⟩).symm, rfl⟩
    · have d0 := decide_eq_true h0
      have d1 := decide_eq_false h1
      go_enter Try.func51, Try.ntmps51
      go_wp2
      go_ret
      exact ⟨ret_bool (by first | rfl | (symm; simp; omega)), rfl⟩
  · have d0 := decide_eq_false h0
    go_enter Try.func51, Try.ntmps51
    go_wp2
    go_ret
    exact ⟨ret_bool (by first | rfl | (symm; simp; omega)), rfl⟩

set_option maxRecDepth 100000 in
set_option maxHeartbeats 1000000 in
theorem lastNumber_any (v : Value) (r : List (Int × Int)) (w : World) (h : Rngs w v r) (hl : r.length ≤ 1048576) : Calls Try.prog 50 #[v] w fun e w' => e = .returned (.int .i64 (lastN r)) ∧ w = w' := by
  obtain ⟨a, c, rfl, h⟩ := h
  by_cases e : r = []
  · subst e
    have HE := Lib.hid (show (-1 : Int) = lastN [] from rfl)
    go_enter Try.func50, Try.ntmps50
    go_wp2
    go_ret
    exact ⟨ret_int HE.out, rfl⟩
  · have HE := Lib.hid (show (r.getD (r.length - 1) (0, 0)).2 = lastN r by unfold lastN; rw [if_neg e])
    have hp : 0 < r.length := List.length_pos_iff.2 e
    obtain ⟨g, o, rfl, hc⟩ := h e
    obtain ⟨d0, d1⟩ := hc (r.length - 1) (by omega)
    obtain ⟨k, hk⟩ : ∃ k, r.length - 1 = k := ⟨_, rfl⟩
    rw [hk] at d0 d1 HE
    obtain ⟨m, hm⟩ : ∃ m, r.length = m := ⟨_, rfl⟩
    have hmk : Hid (m = k + 1) := Lib.hid (by omega)
    obtain ⟨z, hz⟩ : ∃ z, (r.getD k (0, 0)).2 = z := ⟨_, rfl⟩
    rw [hz] at d1 HE
    rw [hm]
    have h0 : ((m : Int) == 0) = false := by simp; omega
    have hw : IntKind.i64.wrap ((m : Int) - 1) = (k : Int) := by rw [IntWalk.i64_in _ (by omega)]; omega
    have hlt : ((k : Int) < (m : Int)) := by omega
    have hlt' : k < m := by omega
    clear hc h d0 hz hk hm hp e
    go_enter Try.func50, Try.ntmps50
    go_wp2
    go_ret
    exact ⟨ret_int HE.out, rfl⟩

set_option maxRecDepth 100000 in
set_option maxHeartbeats 1000000 in
theorem isLost_any (p1 p2 p3 top t d : Int) (w : World) (ht : -2000 ≤ top ∧ top ≤ 2000) (hn : 0 ≤ t ∧ t ≤ 2000) (hd : 0 ≤ d ∧ d ≤ 2000) : Calls Try.prog 56 #[.agg #[.int .i64 p1, .int .i64 p2, .int .i64 p3], .int .i64 top, .int .i64 t, .int .i64 d] w fun e w' => e = .returned (.bool (isLost top t d (p1, p2, p3))) ∧ Below w.heap.size w w' := by
  have w1 : IntKind.i64.wrap (top - 3) = top - 3 := IntWalk.i64_in _ (by omega)
  have w2 : IntKind.i64.wrap (t - d) = t - d := IntWalk.i64_in _ (by omega)
  obtain ⟨b0, b1, b2⟩ := C3.new w (.int .i64 p1) (.int .i64 p2) (.int .i64 p3) 57
  have B := Lib.hid ((Below.refl w.heap.size w).alloc (Nat.le_refl _) (.cells #[.int .i64 p1, .int .i64 p2, .int .i64 p3] 57))
  have HX : Hid (∀ b, b = decide (p1 < top ∧ (p1 ≤ top - 3 ∨ p2 ≤ t - d)) → b = isLost top t d (p1, p2, p3)) := Lib.hid fun b h => h
  by_cases h1 : p1 < top
  · have d1 := decide_eq_true h1
    by_cases h2 : p1 ≤ top - 3
    · have d2 := decide_eq_true h2
      have HE := Lib.hid (HX.out true (decide_eq_true ⟨h1, .inl h2⟩).symm)
      go_enter Try.func56, Try.ntmps56
      go_wp2
      go_ret
      exact ⟨ret_bool HE.out, B.out⟩
    · have d2 := decide_eq_false h2
      by_cases h3 : p2 ≤ t - d
      · have d3 := decide_eq_true h3
        have HE := Lib.hid (HX.out true (decide_eq_true ⟨h1, .inr h3⟩).symm)
        go_enter Try.func56, Try.ntmps56
        go_wp2
        go_ret
        exact ⟨ret_bool HE.out, B.out⟩
      · have d3 := decide_eq_false h3
        have HE := Lib.hid (HX.out false (decide_eq_false fun h => by omega).symm)
        go_enter Try.func56, Try.ntmps56
        go_wp2
        go_ret
        exact ⟨ret_bool HE.out, B.out⟩
  · have d1 := decide_eq_false h1
    have HE := Lib.hid (HX.out false (decide_eq_false fun h => by omega).symm)
    go_enter Try.func56, Try.ntmps56
    go_wp2
    go_ret
    exact ⟨ret_bool HE.out, B.out⟩

set_option maxRecDepth 100000 in
set_option maxHeartbeats 1000000 in
theorem lit1_any (ab : Nat) (v : Value) (r : List (Int × Int)) (p1 p2 p3 : Int) (w : World) (hc : w.cell? ⟨ab, 0, none⟩ = some v) (h : Rngs w v r) (hr : rvalid r = true) (hl : r.length ≤ 1048576) :
    Calls Try.prog 53 #[.agg #[.int .i64 p1, .int .i64 p2, .int .i64 p3], .pointer (some ⟨ab, 0, none⟩)] w fun e w' => e = .returned (.bool (hasR r p1)) ∧ Below w.heap.size w w' := by
  obtain ⟨b0, b1, b2⟩ := C3.new w (.int .i64 p1) (.int .i64 p2) (.int .i64 p3) 57
  have B := Lib.hid ((Below.refl w.heap.size w).alloc (Nat.le_refl _) (.cells #[.int .i64 p1, .int .i64 p2, .int .i64 p3] 57))
  have a0 := (B.out.cell (p := ⟨ab, 0, none⟩) (World.block_lt_of_cell? w _ hc)).trans hc
  have HC := Lib.hid (ihas_any v r p1 _ (h.below B.out) hl)
  obtain ⟨a, c, rfl⟩ : ∃ a c, v = .slice a r.length c := by obtain ⟨a, c, e, _⟩ := h; exact ⟨a, c, e⟩
  have HE := Lib.hid (show (rvalid r && rhas r p1) = hasR r p1 by rw [hr, Bool.true_and, has_rhas])
  clear hc h hr
  go_enter Try.func53, Try.ntmps53
  go_wp2_with fail
  refine HC.out.mono ?_
  rw [HE.out]
  rintro e w1 ⟨rfl, hb⟩
  have B1 := Lib.hid (B.out.trans (hb.mono B.out.size))
  clear hb
  go_wp2_with fail
  go_ret
  exact ⟨rfl, B1.out⟩

set_option maxRecDepth 100000 in
set_option maxHeartbeats 1000000 in
theorem lit2_any (lb nb db : Nat) (p1 p2 p3 top t d : Int) (w : World) (hc1 : w.cell? ⟨lb, 0, none⟩ = some (.int .i64 top)) (hc2 : w.cell? ⟨nb, 0, none⟩ = some (.int .i64 t)) (hc3 : w.cell? ⟨db, 0, none⟩ = some (.int .i64 d)) (ht : -2000 ≤ top ∧ top ≤ 2000) (hn : 0 ≤ t ∧ t ≤ 2000) (hd : 0 ≤ d ∧ d ≤ 2000) :
    Calls Try.prog 55 #[.agg #[.int .i64 p1, .int .i64 p2, .int .i64 p3], .pointer (some ⟨lb, 0, none⟩), .pointer (some ⟨nb, 0, none⟩), .pointer (some ⟨db, 0, none⟩)] w fun e w' => e = .returned (.bool (isLost top t d (p1, p2, p3))) ∧ Below w.heap.size w w' := by
  obtain ⟨b0, b1, b2⟩ := C3.new w (.int .i64 p1) (.int .i64 p2) (.int .i64 p3) 57
  have B := Lib.hid ((Below.refl w.heap.size w).alloc (Nat.le_refl _) (.cells #[.int .i64 p1, .int .i64 p2, .int .i64 p3] 57))
  have a0 := (B.out.cell (p := ⟨lb, 0, none⟩) (World.block_lt_of_cell? w _ hc1)).trans hc1
  have a1 := (B.out.cell (p := ⟨nb, 0, none⟩) (World.block_lt_of_cell? w _ hc2)).trans hc2
  have a2 := (B.out.cell (p := ⟨db, 0, none⟩) (World.block_lt_of_cell? w _ hc3)).trans hc3
  have HC := Lib.hid (isLost_any p1 p2 p3 top t d (w.alloc (.cells #[.int .i64 p1, .int .i64 p2, .int .i64 p3] 57)) ht hn hd)
  clear hc1 hc2 hc3 ht hn hd
  go_enter Try.func55, Try.ntmps55
  go_wp2_with fail
  refine HC.out.mono ?_
  rintro e w1 ⟨rfl, hb⟩
  have B1 := Lib.hid (B.out.trans (hb.mono B.out.size))
  clear hb
  go_wp2_with fail
  go_ret
  exact ⟨rfl, B1.out⟩

end Go.Proofs.Ytccolpaenmebeaa
