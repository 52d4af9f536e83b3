/- The laws of chapter 11: hasInt. -/
import Derived.Test.YtakfohcnclmkbaaSAt
namespace Go.Proofs.Ytakfohcnclmkbaa
open Go.RowKit
set_option linter.unusedVariables false
set_option linter.unusedSimpArgs false

set_option maxRecDepth 100000 in
set_option maxHeartbeats 1000000 in
theorem lhas_any (v : Value) (k : List Int) (n : Int) (w : World) (h : Ints w v k) (hl : k.length ≤ 1048576) : Calls Try.prog 19 #[v, .int .i64 n] w fun e w' => e = .returned (.bool (decide (n ∈ k))) ∧ Below w.heap.size w w' := by
  obtain ⟨a, c, rfl, h⟩ := h
  have HC := Lib.hid h
  clear h
  go_enter Try.func19, Try.ntmps19
  go_wp2_with fail
  go_loopw [5] (fun iv wr => ∃ j : Nat, j ≤ k.length ∧ iv = .int .i64 (j : Int) ∧ Hid (n ∉ k.take j) ∧ Hid (Below w.heap.size w wr)) (fun iv _ => k.length - (intOf iv).toNat)
  case atStart => exact ⟨0, Nat.zero_le _, rfl, Lib.hid (by simp), Lib.hid (Below.refl _ _)⟩
  case round =>
    obtain ⟨j, hj, rfl, HS, HB⟩ := hrel
    by_cases hlt : j < k.length
    · have hlt' : (j : Int) < (k.length : Int) := by omega
      obtain ⟨g, o, rfl, hc⟩ := HC.out (by rintro rfl; simp at hlt)
      have hcj := hc j hlt
      have e1 : wr.cell? ⟨g, o + j, none⟩ = some (.int .i64 (k.getD j 0)) := (HB.out.cell (World.block_lt_of_cell? w _ hcj)).trans hcj
      have HT := Lib.hid (takeI k j hlt)
      have HN := Lib.hid (fun h1 => notin_take hlt HS.out h1)
      clear hc hcj
      generalize k.getD j 0 = x at *
      by_cases hx : x = n
      · have HX := Lib.hid hx
        have hb : (x == n) = true := by rw [hx]; exact beq_self_eq_true n
        clear hx
        go_wp2_with fail
        go_ret
        exact BoolPost' (decide_eq_true (by rw [← HX.out]; exact HT.out.2)).symm HB.out
      · have hb : (x == n) = false := by rw [beq_eq_false_iff_ne]; exact hx
        go_wp2_with fail
        go_roundw
        case rel => exact ⟨j + 1, by omega, by go_num, Lib.hid (HN.out hx), HB⟩
        case measure => simp [intOf]; omega
    · have hlt' : ¬ (j : Int) < (k.length : Int) := by omega
      have hs := HS.out
      rw [List.take_of_length_le (by omega)] at hs
      have HS2 := Lib.hid hs
      clear hs
      go_wp2_with fail
      go_ret
      exact BoolPost' (decide_eq_false HS2.out).symm HB.out

end Go.Proofs.Ytakfohcnclmkbaa
