/- The contract of hasInt, once more: it only reads (the world has drawn, nothing else). And two words on draws. -/
import Derived.Test.YtakfohcnclmkbaaHasI
import Derived.Deep.Draws
import Derived.Deep.QuietTactic
import Derived.BigQuiet
namespace Go.Proofs.Ytakfohcnclmkbaa
open Go.RowKit
set_option linter.unusedVariables false
set_option linter.unusedSimpArgs false

theorem below_drewN {B : Nat} {a w : World} (h : Below B a w) (n : Nat) : Below B a (w.drewN n) := ⟨h.os, h.tape, h.output, h.size, h.block⟩

set_option maxRecDepth 100000 in
set_option maxHeartbeats 1000000 in
theorem lhasq_any (v : Value) (k : List Int) (n : Int) (w : World) (h : Ints w v k) (hl : k.length ≤ 1048576) : Calls Try.prog 19 #[v, .int .i64 n] w fun e w' => e = .returned (.bool (decide (n ∈ k))) ∧ ∃ m, w' = w.drewN m := by
  obtain ⟨a, c, rfl, h⟩ := h
  have HC := Lib.hid h
  clear h
  go_enter Try.func19, Try.ntmps19
  go_wp2_with fail
  go_loopw [5] (fun iv wr => ∃ j m : Nat, j ≤ k.length ∧ iv = .int .i64 (j : Int) ∧ Hid (n ∉ k.take j) ∧ wr = w.drewN m) (fun iv _ => k.length - (intOf iv).toNat)
  case atStart => exact ⟨0, 0, Nat.zero_le _, rfl, Lib.hid (by simp), rfl⟩
  case round =>
    obtain ⟨j, m, hj, rfl, HS, rfl⟩ := hrel
    by_cases hlt : j < k.length
    · have hlt' : (j : Int) < (k.length : Int) := by omega
      obtain ⟨g, o, rfl, hc⟩ := HC.out (by rintro rfl; simp at hlt)
      have e1 := hc j hlt
      have HT := Lib.hid (takeI k j hlt)
      have HN := Lib.hid (fun h1 => notin_take hlt HS.out h1)
      clear hc
      generalize k.getD j 0 = x at *
      by_cases hx : x = n
      · have HX := Lib.hid hx
        have hb : (x == n) = true := by rw [hx]; exact beq_self_eq_true n
        have HR : Hid (true = decide (n ∈ k)) := Lib.hid (decide_eq_true (by rw [← HX.out]; exact HT.out.2)).symm
        clear hx
        go_wp2_with fail
        go_ret
        exact ⟨congrArg (fun b => Ending.returned (.bool b)) HR.out, _, rfl⟩
      · have hb : (x == n) = false := by rw [beq_eq_false_iff_ne]; exact hx
        go_wp2_with fail
        go_roundw
        case rel => exact ⟨j + 1, _, by omega, by go_num, Lib.hid (HN.out hx), rfl⟩
        case measure => simp [intOf]; omega
    · have hlt' : ¬ (j : Int) < (k.length : Int) := by omega
      have hs := HS.out
      rw [List.take_of_length_le (by omega)] at hs
      have HR : Hid (false = decide (n ∈ k)) := Lib.hid (decide_eq_false hs).symm
      clear hs
      go_wp2_with fail
      go_ret
      exact ⟨congrArg (fun b => Ending.returned (.bool b)) HR.out, _, rfl⟩

end Go.Proofs.Ytakfohcnclmkbaa
