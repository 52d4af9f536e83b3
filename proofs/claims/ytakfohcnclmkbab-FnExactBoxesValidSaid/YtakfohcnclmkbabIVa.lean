/- Chapter 11, the program: atoms, lists of atoms, boxes: which are valid. -/
import Derived.Test.YtakfohcnclmkbabSBv
namespace Go.Proofs.Ytakfohcnclmkbab
open Go.RowKit
set_option linter.unusedVariables false
set_option linter.unusedSimpArgs false

set_option maxRecDepth 100000 in
set_option maxHeartbeats 400000 in
theorem iatom_any (n : Int) (w : World) : Calls Try.prog 43 #[.int .i64 n] w fun e w' => e = .returned (.bool (aok n)) ∧ w = w' := by
  by_cases h1 : n ≥ 1
  · by_cases h2 : n ≤ 20
    all_goals
      go_enter Try.func43, Try.ntmps43
      go_wp2
      all_goals
        go_ret
        exact ⟨ret_bool (by unfold aok; first | (simp; done) | (simp; omega)), rfl⟩
  · go_enter Try.func43, Try.ntmps43
    go_wp2
    all_goals
      go_ret
      exact ⟨ret_bool (by unfold aok; first | (simp; done) | (simp; omega)), rfl⟩

set_option maxRecDepth 100000 in
set_option maxHeartbeats 400000 in
theorem inot_any (n : Int) (w : World) : Calls Try.prog 52 #[.int .i64 n] w fun e w' => e = .returned (.bool (!aok n)) ∧ w = w' := by
  go_enter Try.func52, Try.ntmps52
  go_wp2_with fail
  refine (iatom_any _ _).mono ?_
  rintro e w' ⟨rfl, rfl⟩
  go_wp2_with fail
  go_ret
  exact ⟨rfl, rfl⟩

set_option maxRecDepth 100000 in
set_option maxHeartbeats 1000000 in
theorem iidx_any (v : Value) (k : List Int) (w : World) (h : Ints w v k) (hl : k.length ≤ 1048576) :
    Calls Try.prog 57 #[v, .func (.func 52) #[] #[]] w fun e w' => ∃ i : Int, e = .returned (.int .i64 i) ∧ decide (0 ≤ i) = !k.all aok ∧ Below w.heap.size w w' := by
  obtain ⟨a, c, rfl, h⟩ := h
  have HC := Lib.hid h
  clear h
  go_enter Try.func57, Try.ntmps57
  go_wp2_with fail
  go_loopw [8] (fun iv wr => ∃ j : Nat, j ≤ k.length ∧ iv = .int .i64 (j : Int) ∧ Hid (∀ a ∈ k.take j, aok a = true) ∧ Hid (Below w.heap.size w wr)) (fun iv _ => k.length - (intOf iv).toNat)
  case atStart => exact ⟨0, Nat.zero_le _, rfl, Lib.hid (by simp), Lib.hid (Below.refl _ _)⟩
  case round =>
    obtain ⟨j, hj, rfl, HS, HB⟩ := hrel
    by_cases hlt : j < k.length
    · have hlt' : (j : Int) < (k.length : Int) := by omega
      obtain ⟨g, o, rfl, hc⟩ := HC.out (by rintro rfl; simp at hlt)
      have hcj := hc j hlt
      have e1 : wr.cell? ⟨g, o + j, none⟩ = some (.int .i64 (k.getD j 0)) := (HB.out.cell (World.block_lt_of_cell? w _ hcj)).trans hcj
      have HT := Lib.hid (takeI k j hlt)
      clear hc hcj
      generalize k.getD j 0 = x at *
      cases hq : aok x with
      | false =>
        have HQ := Lib.hid hq
        have IC : ∀ W, Calls Try.prog 52 #[.int .i64 x] W fun e w' => e = .returned (.bool true) ∧ W = w' := fun W => (inot_any x W).mono (by rintro e w' ⟨rfl, rfl⟩; exact ⟨by rw [HQ.out]; rfl, rfl⟩)
        have IC := Lib.hid IC
        clear hq
        go_wp2_with fail
        refine (IC.out _).mono ?_
        rintro e w' ⟨rfl, rfl⟩
        go_wp2_with fail
        go_ret
        refine ⟨_, rfl, ?_, HB.out⟩
        have : k.all aok = false := by
          rw [List.all_eq_false]; exact ⟨x, HT.out.2, by rw [HQ.out]; simp⟩
        rw [this]; simp
      | true =>
        have HQ := Lib.hid hq
        have IC : ∀ W, Calls Try.prog 52 #[.int .i64 x] W fun e w' => e = .returned (.bool false) ∧ W = w' := fun W => (inot_any x W).mono (by rintro e w' ⟨rfl, rfl⟩; exact ⟨by rw [HQ.out]; rfl, rfl⟩)
        have IC := Lib.hid IC
        clear hq
        go_wp2_with fail
        refine (IC.out _).mono ?_
        rintro e w' ⟨rfl, rfl⟩
        go_wp2_with fail
        go_roundw
        case rel =>
          refine ⟨j + 1, by omega, by go_num, Lib.hid fun a ha => ?_, HB⟩
          rw [HT.out.1, List.mem_append] at ha
          rcases ha with ha | ha
          · exact HS.out a ha
          · rw [List.mem_singleton.1 ha]; exact HQ.out
        case measure => simp [intOf]; omega
    · have hlt' : ¬ (j : Int) < (k.length : Int) := by omega
      have hs := HS.out
      rw [List.take_of_length_le (by omega)] at hs
      have HA : Hid (k.all aok = true) := Lib.hid (List.all_eq_true.2 hs)
      clear hs
      go_wp2_with fail
      go_ret
      exact ⟨-1, rfl, by rw [HA.out]; rfl, HB.out⟩

set_option maxRecDepth 100000 in
set_option maxHeartbeats 1000000 in
theorem icont_any (v : Value) (k : List Int) (w : World) (h : Ints w v k) (hl : k.length ≤ 1048576) :
    Calls Try.prog 51 #[v, .func (.func 52) #[] #[]] w fun e w' => e = .returned (.bool (!k.all aok)) ∧ Below w.heap.size w w' := by
  have IX := Lib.hid (iidx_any v k w h hl)
  obtain ⟨a, c, rfl, h⟩ := h
  clear h
  go_enter Try.func51, Try.ntmps51
  go_wp2_with fail
  refine IX.out.mono ?_
  rintro e w1 ⟨i, rfl, hi, hb⟩
  have HI := Lib.hid hi
  have HB := Lib.hid hb
  clear hi hb
  go_wp2_with fail
  go_ret
  exact BoolPost' HI.out HB.out

set_option maxRecDepth 100000 in
set_option maxHeartbeats 1000000 in
theorem ivatoms_any (v : Value) (k : List Int) (n : Int) (w : World) (h : Ints w v k) (hl : k.length ≤ 1048576) :
    Calls Try.prog 44 #[v, .int .i64 n] w fun e w' => e = .returned (.bool (decide ((k.length : Int) ≤ n) && k.all aok)) ∧ Below w.heap.size w w' := by
  have IX := Lib.hid (icont_any v k w h hl)
  obtain ⟨a, c, rfl, h⟩ := h
  clear h
  by_cases hn : (k.length : Int) ≤ n
  · have HN := Lib.hid (decide_eq_true hn)
    go_enter Try.func44, Try.ntmps44
    go_wp2_with fail
    refine IX.out.mono ?_
    rintro e w1 ⟨rfl, hb⟩
    have HB := Lib.hid hb
    clear hb
    go_wp2_with fail
    go_ret
    exact BoolPost' (by rw [HN.out]; cases k.all aok <;> rfl) HB.out
  · have HN := Lib.hid (decide_eq_false hn)
    go_enter Try.func44, Try.ntmps44
    go_wp2_with fail
    go_ret
    exact BoolPost' (by rw [HN.out]; rfl) (Below.refl _ _)

end Go.Proofs.Ytakfohcnclmkbab
