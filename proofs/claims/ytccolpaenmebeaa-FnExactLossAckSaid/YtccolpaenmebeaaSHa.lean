/- The model's l2Has. -/
import Derived.Test.YtccolpaenmebeaaRg
import Derived.Test.YtccolpaenmebeaaUnMath
import Derived.StillTailTactics
namespace Go.Proofs.Ytccolpaenmebeaa
open Go.RowKit
set_option linter.unusedVariables false
set_option linter.unusedSimpArgs false

set_option maxRecDepth 100000 in
set_option maxHeartbeats 400000 in
theorem in_any (n lo hi : Int) (w : World) : Calls Try.prog 37 #[.int .i64 n, .int .i64 lo, .int .i64 hi] w fun e w' => e = .returned (.bool (decide (lo ≤ n ∧ n ≤ hi))) ∧ w = w' := by
  by_cases h1 : lo ≤ n
  · by_cases h2 : n ≤ hi
    all_goals
      go_enter Try.func37, Try.ntmps37
      go_wp2
      all_goals
        go_ret
        exact ⟨ret_bool (by first | (simp [*]; done) | (rw [Bool.eq_iff_iff, decide_eq_true_eq, decide_eq_true_eq]; omega) | (simp; omega)), rfl⟩
  · go_enter Try.func37, Try.ntmps37
    go_wp2
    all_goals
      go_ret
      exact ⟨ret_bool (by first | (simp [*]; done) | (rw [Bool.eq_iff_iff, decide_eq_true_eq, decide_eq_true_eq]; omega) | (simp; omega)), rfl⟩

theorem has_take (l : List (Int × Int)) (k : Nat) (n : Int) (h : k < l.length) : rhas (l.take (k + 1)) n = (rhas (l.take k) n || decide ((l.getD k (0, 0)).1 ≤ n ∧ n ≤ (l.getD k (0, 0)).2)) := by
  rw [take_get l k h, Bool.eq_iff_iff, rhas_app, Bool.or_eq_true, rhas_cons, rhas_nil, or_false, decide_eq_true_eq]
theorem has_part (l : List (Int × Int)) (k : Nat) (n : Int) (h : rhas (l.take k) n = true) : rhas l n = true := by
  rw [← List.take_append_drop k l, rhas_app]; exact .inl h

set_option maxRecDepth 100000 in
set_option maxHeartbeats 2000000 in
theorem l2has_any (v : Value) (l : List (Int × Int)) (n : Int) (w : World) (h : Rngs w v l) (hlen : l.length ≤ 1048576) :
    Calls Try.prog 62 #[v, .int .i64 n] w fun e w' => e = .returned (.bool (rhas l n)) ∧ Below w.heap.size w w' := by
  obtain ⟨a, c, rfl, h⟩ := h
  have HC := Lib.hid h
  clear h
  go_enter Try.func62, Try.ntmps62
  go_wp2_with fail
  go_loopw [5] (fun iv wr => ∃ k : Nat, k ≤ l.length ∧ iv = .int .i64 k ∧ Hid (rhas (l.take k) n = false) ∧ Hid (Below w.heap.size w wr)) (fun iv _ => l.length - (intOf iv).toNat)
  case atStart => exact ⟨0, Nat.zero_le _, rfl, rfl, Below.refl _ _⟩
  case round =>
    obtain ⟨k, hk, rfl, HF, HB⟩ := hrel
    by_cases hlt : k < l.length
    · obtain ⟨g, o, rfl, hc⟩ := HC.out (by rintro rfl; simp at hlt)
      have b1 : (k : Int) < (l.length : Int) := by omega
      obtain ⟨e1, e2⟩ := hc k hlt
      have e1 := (HB.out.cell (World.block_lt_of_cell? w _ e1)).trans e1
      have e2 := (HB.out.cell (World.block_lt_of_cell? w _ e2)).trans e2
      have hst := has_take l k n hlt
      rw [HF.out, Bool.false_or] at hst
      have HST := Lib.hid hst
      have HPT := Lib.hid (fun h => has_part l (k + 1) n h)
      clear hc hst
      generalize (l.getD k (0, 0)).1 = x at e1 HST
      generalize (l.getD k (0, 0)).2 = y at e2 HST
      go_wp2_with fail
      refine wp_region_still_tail 11 (by kernel_rfl) (by kernel_rfl) ?_
      obtain ⟨W, hW⟩ : ∃ W, ({ wr with drawn := wr.drawn + 1 } : World) = W := ⟨_, rfl⟩
      have f1 : W.cell? ⟨g, o + k * 2, none⟩ = some (.int .i64 x) := by rw [← hW]; exact e1
      have f2 : W.cell? ⟨g, o + k * 2 + 1, none⟩ = some (.int .i64 y) := by rw [← hW]; exact e2
      have HBW := Lib.hid (show Below w.heap.size w W by rw [← hW]; exact below_drewN' HB.out 1)
      rw [hW]
      clear hW e1 e2
      simp only [List.take_succ_cons, List.take_zero, List.drop_succ_cons, List.drop_zero]
      iterate 11 still_step
      refine wpStill_nil ?_
      go_wp2_with fail
      refine (in_any n x y W).mono ?_
      rintro e w3 ⟨rfl, rfl⟩
      cases hd : decide (x ≤ n ∧ n ≤ y) with
      | true =>
        have HR := Lib.hid (HPT.out (by rw [HST.out, hd]))
        clear hd
        go_wp2_with fail
        go_ret
        exact ⟨ret_bool HR.out.symm, HBW.out⟩
      | false =>
        have HN := Lib.hid (show rhas (l.take (k + 1)) n = false by rw [HST.out, hd])
        clear hd
        go_wp2_with fail
        go_roundw
        case rel => exact ⟨k + 1, by omega, by go_num, HN.out, HBW.out⟩
        case measure => simp [intOf]; omega
    · have he : rhas l n = false := by
        have := HF.out
        rwa [List.take_of_length_le (by omega)] at this
      have HE := Lib.hid he
      clear he
      go_wp2_with fail
      go_ret
      exact ⟨ret_bool HE.out.symm, HB.out⟩

end Go.Proofs.Ytccolpaenmebeaa
