/- Plain numbers of chapter 1: the length of a shortest encoding; contracts of the functions that only compute it. -/
import Derived.Test.YtfppnaaofkicaaaRows
import Derived.WalkKit
import Derived.WalkSpells
import Derived.WalkLawsBesides
import Derived.Lib.Hide
namespace Go.Proofs.Ytfppnaaofkicaaa
open Go.RowKit
set_option linter.unusedVariables false
set_option linter.unusedSimpArgs false

def vlen (n : Int) : Int := if n < 0 then 0 else if 1073741823 < n then 0 else if n < 64 then 1 else if n < 16384 then 2 else 4
def vin (n : Int) : Bool := decide (0 ≤ n ∧ n ≤ 1073741823)

theorem ret_int {k : IntKind} {a b : Int} (h : a = b) : Ending.returned (.int k a) = .returned (.int k b) := by rw [h]
theorem ret_bool {a b : Bool} (h : a = b) : Ending.returned (.bool a) = .returned (.bool b) := by rw [h]

set_option maxHeartbeats 400000 in
theorem size_any (n : Int) (w : World) : Calls Try.prog 37 #[.int .i64 n] w fun e w' => e = .returned (.int .i64 (vlen n)) ∧ w = w' := by
  by_cases h1 : n < 0
  · go_enter Try.func37, Try.ntmps37
    go_wp2
    go_ret
    exact ⟨ret_int (by unfold vlen; omega), rfl⟩
  · by_cases h2 : 1073741823 < n
    all_goals
      go_enter Try.func37, Try.ntmps37
      go_wp2
      all_goals
        go_ret
        exact ⟨ret_int (by unfold vlen; omega), rfl⟩

set_option maxHeartbeats 400000 in
theorem l1Len_any (n : Int) (w : World) (h0 : 0 ≤ n) (h1 : n ≤ 1073741823) : Calls Try.prog 35 #[.int .i64 n] w fun e w' => e = .returned (.int .i64 (vlen n)) ∧ w = w' := by
  go_enter Try.func35, Try.ntmps35
  go_wp2
  all_goals
    go_ret
    exact ⟨ret_int (by unfold vlen; omega), rfl⟩

set_option maxHeartbeats 400000 in
theorem l6In_any (n a b : Int) (w : World) : Calls Try.prog 33 #[.int .i64 n, .int .i64 a, .int .i64 b] w fun e w' => e = .returned (.bool (decide (a ≤ n ∧ n ≤ b))) ∧ w = w' := by
  by_cases h1 : n < a
  · go_enter Try.func33, Try.ntmps33
    go_wp2
    all_goals
      go_ret
      exact ⟨ret_bool (by first | (simp; done) | (simp; omega)), rfl⟩
  · by_cases h2 : b < n
    all_goals
      go_enter Try.func33, Try.ntmps33
      go_wp2
      all_goals
        go_ret
        exact ⟨ret_bool (by first | (simp; done) | (simp; omega)), rfl⟩

set_option maxHeartbeats 400000 in
theorem ivlen_any (n : Int) (w : World) : Calls Try.prog 15 #[.int .i64 n] w fun e w' => e = .returned (.int .i64 (vlen n)) ∧ w = w' := by
  go_enter Try.func15, Try.ntmps15
  go_wp2_with (go_at_call 37; refine (size_any _ _).mono ?_; rintro e w' ⟨rfl, rfl⟩)
  go_ret
  exact ⟨rfl, rfl⟩

set_option maxHeartbeats 400000 in
theorem svlen_any (n : Int) (w : World) : Calls Try.prog 17 #[.int .i64 n] w fun e w' => e = .returned (.int .i64 (vlen n)) ∧ w = w' := by
  by_cases h : 0 ≤ n ∧ n ≤ 1073741823
  · have hd : decide (0 ≤ n ∧ n ≤ 1073741823) = true := decide_eq_true h
    have HD := Lib.hid hd
    obtain ⟨h1, h2⟩ := h
    clear hd
    go_enter Try.func17, Try.ntmps17
    go_wp2_with (first | (go_at_call 33; refine (l6In_any _ _ _ _).mono ?_; rw [HD.out]; rintro e w' ⟨rfl, rfl⟩) | (go_at_call 35; refine (l1Len_any _ _ h1 h2).mono ?_; rintro e w' ⟨rfl, rfl⟩))
    go_ret
    exact ⟨rfl, rfl⟩
  · have hd : decide (0 ≤ n ∧ n ≤ 1073741823) = false := decide_eq_false h
    have HD := Lib.hid hd
    have hv : vlen n = 0 := by unfold vlen; omega
    have HV := Lib.hid hv
    clear hd hv h
    go_enter Try.func17, Try.ntmps17
    go_wp2_with (go_at_call 33; refine (l6In_any _ _ _ _).mono ?_; rw [HD.out]; rintro e w' ⟨rfl, rfl⟩)
    go_ret
    exact ⟨ret_int HV.out.symm, rfl⟩

end Go.Proofs.Ytfppnaaofkicaaa
