/- Chapter 11, the model: atoms, lists of atoms, what a list has. -/
import Derived.Test.YtakfohcnclmkbabBxs
namespace Go.Proofs.Ytakfohcnclmkbab
open Go.RowKit
set_option linter.unusedVariables false
set_option linter.unusedSimpArgs false

set_option maxRecDepth 100000 in
set_option maxHeartbeats 400000 in
theorem l6In_any (n a b : Int) (w : World) : Calls Try.prog 28 #[.int .i64 n, .int .i64 a, .int .i64 b] w fun e w' => e = .returned (.bool (decide (a ≤ n ∧ n ≤ b))) ∧ w = w' := by
  by_cases h1 : n < a
  · go_enter Try.func28, Try.ntmps28
    go_wp2
    all_goals
      go_ret
      exact ⟨ret_bool (by first | (simp; done) | (simp; omega)), rfl⟩
  · by_cases h2 : b < n
    all_goals
      go_enter Try.func28, Try.ntmps28
      go_wp2
      all_goals
        go_ret
        exact ⟨ret_bool (by first | (simp; done) | (simp; omega)), rfl⟩

set_option maxRecDepth 100000 in
set_option maxHeartbeats 400000 in
theorem satom_any (n : Int) (w : World) : Calls Try.prog 27 #[.int .i64 n] w fun e w' => e = .returned (.bool (aok n)) ∧ w = w' := by
  go_enter Try.func27, Try.ntmps27
  go_wp2_with fail
  refine (l6In_any _ _ _ _).mono ?_
  rintro e w' ⟨rfl, rfl⟩
  go_wp2_with fail
  go_ret
  exact ⟨ret_bool (by unfold aok; simp), rfl⟩

set_option maxRecDepth 100000 in
set_option maxHeartbeats 1000000 in
theorem sknown_any (v : Value) (k : List Int) (w : World) (h : Ints w v k) (hl : k.length ≤ 1048576) : Calls Try.prog 34 #[v] w fun e w' => e = .returned (.bool (kok k)) ∧ Below w.heap.size w w' := by
  obtain ⟨a, c, rfl, h⟩ := h
  have HC := Lib.hid h
  clear h
  go_enter Try.func34, Try.ntmps34
  go_wp2_with fail
  go_loopw [3] (fun iv wr => ∃ j : Nat, j ≤ k.length ∧ iv = .int .i64 (j : Int) ∧ Hid (∀ a ∈ k.take j, aok a = true) ∧ Hid (Below w.heap.size w wr)) (fun iv _ => k.length - (intOf iv).toNat)
  case atStart => exact ⟨0, Nat.zero_le _, rfl, Lib.hid (by simp), Lib.hid (Below.refl _ _)⟩
  case round =>
    obtain ⟨j, hj, rfl, HS, HB⟩ := hrel
    by_cases hlt : j < k.length
    · have hlt' : (j : Int) < (k.length : Int) := by omega
      obtain ⟨g, o, rfl, hc⟩ := HC.out (by rintro rfl; simp at hlt)
      have hcj := hc j hlt
      have e1 : wr.cell? ⟨g, o + j, none⟩ = some (.int .i64 (k.getD j 0)) := (HB.out.cell (World.block_lt_of_cell? w _ hcj)).trans hcj
      have HT := Lib.hid (takeI k j hlt)
      clear hc hcj
      generalize k.getD j 0 = x at *
      cases hq : aok x with
      | false =>
        have HQ := Lib.hid hq
        clear hq
        go_wp2_with fail
        refine (satom_any _ _).mono ?_
        rw [HQ.out]
        rintro e w1 ⟨rfl, rfl⟩
        go_wp2_with fail
        go_ret
        refine BoolPost' ?_ HB.out
        cases hk : kok k
        · rfl
        · have := (kok_iff.1 hk).2 _ HT.out.2
          rw [HQ.out] at this; cases this
      | true =>
        have HQ := Lib.hid hq
        clear hq
        go_wp2_with fail
        refine (satom_any _ _).mono ?_
        rw [HQ.out]
        rintro e w1 ⟨rfl, rfl⟩
        go_wp2_with fail
        go_roundw
        case rel =>
          refine ⟨j + 1, by omega, by go_num, Lib.hid fun a ha => ?_, HB⟩
          rw [HT.out.1, List.mem_append] at ha
          rcases ha with ha | ha
          · exact HS.out a ha
          · rw [List.mem_singleton.1 ha]; exact HQ.out
        case measure => simp [intOf]; omega
    · have hlt' : ¬ (j : Int) < (k.length : Int) := by omega
      have HK : Hid (kok k = decide ((k.length : Int) ≤ 20)) := by
        have hs := HS.out
        rw [List.take_of_length_le (by omega)] at hs
        refine Lib.hid ?_
        unfold kok
        rw [List.all_eq_true.2 hs, Bool.and_true, decide_eq_decide]; omega
      by_cases h20 : (k.length : Int) ≤ 20
      · have H20 := Lib.hid (decide_eq_true h20)
        go_wp2_with fail
        go_ret
        exact BoolPost' (by rw [HK.out]; simp [h20]) HB.out
      · have H20 := Lib.hid (decide_eq_false h20)
        go_wp2_with fail
        go_ret
        exact BoolPost' (by rw [HK.out]; simp [h20]) HB.out

set_option maxRecDepth 100000 in
set_option maxHeartbeats 1000000 in
theorem shas_any (v : Value) (k : List Int) (n : Int) (w : World) (h : Ints w v k) (hl : k.length ≤ 1048576) : Calls Try.prog 39 #[v, .int .i64 n] w fun e w' => e = .returned (.bool (decide (n ∈ k))) ∧ Below w.heap.size w w' := by
  obtain ⟨a, c, rfl, h⟩ := h
  have HC := Lib.hid h
  clear h
  go_enter Try.func39, Try.ntmps39
  go_wp2_with fail
  go_loopw [5] (fun iv wr => ∃ j : Nat, j ≤ k.length ∧ iv = .int .i64 (j : Int) ∧ Hid (n ∉ k.take j) ∧ Hid (Below w.heap.size w wr)) (fun iv _ => k.length - (intOf iv).toNat)
  case atStart => exact ⟨0, Nat.zero_le _, rfl, Lib.hid (by simp), Lib.hid (Below.refl _ _)⟩
  case round =>
    obtain ⟨j, hj, rfl, HS, HB⟩ := hrel
    by_cases hlt : j < k.length
    · have hlt' : (j : Int) < (k.length : Int) := by omega
      obtain ⟨g, o, rfl, hc⟩ := HC.out (by rintro rfl; simp at hlt)
      have hcj := hc j hlt
      have e1 : wr.cell? ⟨g, o + j, none⟩ = some (.int .i64 (k.getD j 0)) := (HB.out.cell (World.block_lt_of_cell? w _ hcj)).trans hcj
      have HT := Lib.hid (takeI k j hlt)
      have HN := Lib.hid (fun h1 => notin_take hlt HS.out h1)
      clear hc hcj
      generalize k.getD j 0 = x at *
      by_cases hx : x = n
      · have HX := Lib.hid hx
        have hb : (x == n) = true := by rw [hx]; exact beq_self_eq_true n
        clear hx
        go_wp2_with fail
        go_ret
        exact BoolPost' (decide_eq_true (by rw [← HX.out]; exact HT.out.2)).symm HB.out
      · have hb : (x == n) = false := by rw [beq_eq_false_iff_ne]; exact hx
        go_wp2_with fail
        go_roundw
        case rel => exact ⟨j + 1, by omega, by go_num, Lib.hid (HN.out hx), HB⟩
        case measure => simp [intOf]; omega
    · have hlt' : ¬ (j : Int) < (k.length : Int) := by omega
      have hs := HS.out
      rw [List.take_of_length_le (by omega)] at hs
      have HS2 := Lib.hid hs
      clear hs
      go_wp2_with fail
      go_ret
      exact BoolPost' (decide_eq_false HS2.out).symm HB.out

end Go.Proofs.Ytakfohcnclmkbab
