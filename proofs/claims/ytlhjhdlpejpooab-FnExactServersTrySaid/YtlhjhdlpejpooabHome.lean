/- TicketHome, the program's and the model's. -/
import Derived.Test.YtlhjhdlpejpooabITk
namespace Go.Proofs.Ytlhjhdlpejpooab
open Go.RowKit
set_option linter.unusedVariables false
set_option linter.unusedSimpArgs false

theorem home_yes {n : Int} {t : Tic} (h : (1 ≤ n ∧ n ≤ 4) ∧ tkvd t) : home n t = t.1 % n := by unfold home; rw [if_pos h]
theorem home_no {n : Int} {t : Tic} (h : ¬ ((1 ≤ n ∧ n ≤ 4) ∧ tkvd t)) : home n t = -1 := by unfold home; rw [if_neg h]
def NumB (w : World) (n : Int) (e : Ending) (w' : World) : Prop := e = .returned (.int .i64 n) ∧ Below w.heap.size w w'
theorem num_b {w w' : World} {n m : Int} (h : m = n) (hb : Below w.heap.size w w') : NumB w n (.returned (.int .i64 m)) w' := ⟨by rw [h], hb⟩
theorem tk_cells (w : World) (x y : Int) : (w.alloc (.cells #[.int .i64 x, .int .i64 y] 38)).cell? ⟨w.heap.size, 0, none⟩ = some (.int .i64 x) ∧ (w.alloc (.cells #[.int .i64 x, .int .i64 y] 38)).cell? ⟨w.heap.size, 1, none⟩ = some (.int .i64 y) := by
  constructor <;> (rw [World.cell?_alloc_mark]; rfl)
set_option maxRecDepth 100000 in
set_option maxHeartbeats 2000000 in
theorem ihome_any (n x y : Int) (w : World) : Calls Try.prog 60 #[.int .i64 n, .agg #[.int .i64 x, .int .i64 y]] w (NumB w (home n (x, y))) := by
  have B1 : Hid (Below w.heap.size w (w.alloc (.cells #[.int .i64 x, .int .i64 y] 38))) := Lib.hid ((Below.refl _ _).alloc (Nat.le_refl _) _)
  obtain ⟨c0, c1⟩ := tk_cells w x y
  obtain ⟨W1, hW1⟩ : ∃ W1, W1 = w.alloc (.cells #[.int .i64 x, .int .i64 y] 38) := ⟨_, rfl⟩
  rw [← hW1] at B1 c0 c1
  by_cases k1 : n < 1
  · have HR := Lib.hid (home_no (n := n) (t := (x, y)) fun h => by omega)
    have d1 : decide (n < 1) = true := decide_eq_true k1
    go_enter Try.func60, Try.ntmps60
    go_wp2_with fail
    go_ret
    exact num_b HR.out.symm (by first | exact B1.out | (rw [← hW1]; exact B1.out))
  · have d1 : decide (n < 1) = false := decide_eq_false k1
    by_cases k2 : (4 : Int) < n
    · have HR := Lib.hid (home_no (n := n) (t := (x, y)) fun h => by omega)
      have d2 : decide ((4 : Int) < n) = true := decide_eq_true k2
      go_enter Try.func60, Try.ntmps60
      go_wp2_with fail
      go_ret
      exact num_b HR.out.symm (by first | exact B1.out | (rw [← hW1]; exact B1.out))
    · have d2 : decide ((4 : Int) < n) = false := decide_eq_false k2
      have hn0 : ¬ n = 0 := by omega
      have hn0b : (n == 0) = false := by rw [beq_eq_false_iff_ne]; exact hn0
      go_enter Try.func60, Try.ntmps60
      go_wp2_with fail
      rw [← hW1]
      clear hW1
      refine (isticket_any (x, y) _).mono ?_
      rintro e w2 ⟨rfl, hb2⟩
      have e0 := (hb2.cell (World.block_lt_of_cell? _ _ c0)).trans c0
      have B2 := Lib.hid (B1.out.trans (hb2.mono B1.out.size))
      clear hb2 c0 c1
      by_cases k3 : tkvd (x, y)
      · rw [decide_eq_true k3]
        have HR := Lib.hid (home_yes (n := n) (t := (x, y)) ⟨by omega, k3⟩).symm
        have hm0 : 0 ≤ x := k3.1.1
        have hm9 : x ≤ 99 := k3.1.2
        have hw : IntKind.i64.wrap (Int.tmod x n) = Int.tmod x n := IntWalk.i64_in _ (by have := Int.tmod_nonneg n hm0; have := Int.tmod_lt_of_pos x (show 0 < n by omega); omega)
        clear k3
        go_wp2_with fail
        go_ret
        exact num_b HR.out B2.out
      · rw [decide_eq_false k3]
        have HR := Lib.hid (home_no (n := n) (t := (x, y)) fun h => k3 h.2)
        clear k3
        go_wp2_with fail
        go_ret
        exact num_b HR.out.symm B2.out
set_option maxRecDepth 100000 in
set_option maxHeartbeats 2000000 in
theorem shome_any (n x y : Int) (w : World) : Calls Try.prog 58 #[.int .i64 n, .agg #[.int .i64 x, .int .i64 y]] w (NumB w (home n (x, y))) := by
  have B1 : Hid (Below w.heap.size w (w.alloc (.cells #[.int .i64 x, .int .i64 y] 38))) := Lib.hid ((Below.refl _ _).alloc (Nat.le_refl _) _)
  obtain ⟨c0, c1⟩ := tk_cells w x y
  obtain ⟨W1, hW1⟩ : ∃ W1, W1 = w.alloc (.cells #[.int .i64 x, .int .i64 y] 38) := ⟨_, rfl⟩
  rw [← hW1] at B1 c0 c1
  go_enter Try.func58, Try.ntmps58
  go_wp2_with fail
  refine (l6In_any n 1 4 _).mono ?_
  rintro e w2 ⟨rfl, rfl⟩
  rw [← hW1]
  clear hW1
  by_cases k1 : 1 ≤ n ∧ n ≤ 4
  · rw [decide_eq_true k1]
    have hn0 : ¬ n = 0 := by omega
    have hn0b : (n == 0) = false := by rw [beq_eq_false_iff_ne]; exact hn0
    have HK := Lib.hid k1
    clear k1
    go_wp2_with fail
    refine (sticket_any (x, y) _).mono ?_
    rintro e w2 ⟨rfl, hb2⟩
    have e0 := (hb2.cell (World.block_lt_of_cell? _ _ c0)).trans c0
    have B2 := Lib.hid (B1.out.trans (hb2.mono B1.out.size))
    clear hb2 c0 c1
    by_cases k3 : tkvd (x, y)
    · rw [decide_eq_true k3]
      have HR := Lib.hid (home_yes (n := n) (t := (x, y)) ⟨HK.out, k3⟩).symm
      have hm0 : 0 ≤ x := k3.1.1
      have hm9 : x ≤ 99 := k3.1.2
      have hw : IntKind.i64.wrap (Int.tmod x n) = Int.tmod x n := IntWalk.i64_in _ (by have := HK.out; have := Int.tmod_nonneg n hm0; have := Int.tmod_lt_of_pos x (show 0 < n by omega); omega)
      clear k3
      go_wp2_with fail
      go_ret
      exact num_b HR.out B2.out
    · rw [decide_eq_false k3]
      have HR := Lib.hid (home_no (n := n) (t := (x, y)) fun h => k3 h.2)
      clear k3
      go_wp2_with fail
      go_ret
      exact num_b HR.out.symm B2.out
  · rw [decide_eq_false k1]
    have HR := Lib.hid (home_no (n := n) (t := (x, y)) fun h => k1 h.1)
    clear k1
    go_wp2_with fail
    go_ret
    exact num_b HR.out.symm B1.out

end Go.Proofs.Ytlhjhdlpejpooab
