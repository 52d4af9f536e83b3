/- Chapter 4, the model's FrameEliciting. -/
import Derived.Test.YtifohfclgonhfaaSFd
namespace Go.Proofs.Ytifohfclgonhfaa
open Go.RowKit
set_option linter.unusedVariables false
set_option linter.unusedSimpArgs false

set_option maxRecDepth 100000 in
set_option maxHeartbeats 1000000 in
theorem sfel_any (f : Fr) (v : Value) (w : World) (h : Rngs w v f.rs) (hl : f.rs.length ≤ 1048576) (hd : f.d.size ≤ 2097152) : Calls Try.prog 34 #[frV f v] w (BoolPost w (fel f)) := by
  have HV := Lib.hid (fun W h => sfok_any f v W h hl hd)
  have HR := Lib.hid h
  clear h hl hd
  cases f with | mk k a b c d rs =>
  unfold frV at HV ⊢
  simp only at HV HR
  have HE : Hid (fel ⟨k, a, b, c, d, rs⟩ = (fok ⟨k, a, b, c, d, rs⟩ && decide (k ≠ 0 ∧ k ≠ 2 ∧ k ≠ 10))) := Lib.hid rfl
  obtain ⟨q, hq⟩ : ∃ q, fok ⟨k, a, b, c, d, rs⟩ = q := ⟨_, rfl⟩
  rw [hq] at HV HE
  clear hq
  have BB : Hid (Below w.heap.size w (w.alloc (.cells #[.int .i64 k, .int .i64 a, .int .i64 b, .int .i64 c, .string d, v] 25))) := Lib.hid ((Below.refl w.heap.size w).alloc (Nat.le_refl _) _)
  cases q
  · go_enter Try.func34, Try.ntmps34
    go_wp2_with fail
    refine (HV.out _ (HR.out.below BB.out)).mono ?_
    rintro e w1 ⟨rfl, hb1⟩
    have HB1 := Lib.hid (BB.out.trans (hb1.mono BB.out.size))
    clear hb1
    go_wp2_with fail
    go_ret
    exact BoolPost.of (by rw [HE.out]; rfl) HB1.out
  · by_cases k0 : k = 0
    · have HX := Lib.hid (show decide (k ≠ 0 ∧ k ≠ 2 ∧ k ≠ 10) = false from (decide_eq_false fun h => h.1 k0))
      have N0 : Hid ((k != 0) = false) := Lib.hid (by rw [k0]; rfl)
      clear k0
      go_enter Try.func34, Try.ntmps34
      go_wp2_with fail
      refine (HV.out _ (HR.out.below BB.out)).mono ?_
      rintro e w1 ⟨rfl, hb1⟩
      have q0 : w1.cell? ⟨w.heap.size, 0, none⟩ = some (.int .i64 k) := (hb1.cell (by simp)).trans (cell_lit w 25 [.int .i64 k, .int .i64 a, .int .i64 b, .int .i64 c, .string d, v] 0)
      have HB1 := Lib.hid (BB.out.trans (hb1.mono BB.out.size))
      clear hb1
      have n0 := N0.out
      go_wp2_with fail
      go_ret
      exact BoolPost.of (by rw [HE.out, Bool.true_and, HX.out]) HB1.out
    · by_cases k2 : k = 2
      · have HX := Lib.hid (show decide (k ≠ 0 ∧ k ≠ 2 ∧ k ≠ 10) = false from (decide_eq_false fun h => h.2.1 k2))
        have N0 : Hid ((k != 0) = true) := Lib.hid (bnt k0)
        have N2 : Hid ((k != 2) = false) := Lib.hid (by rw [k2]; rfl)
        clear k0 k2
        go_enter Try.func34, Try.ntmps34
        go_wp2_with fail
        refine (HV.out _ (HR.out.below BB.out)).mono ?_
        rintro e w1 ⟨rfl, hb1⟩
        have q0 : w1.cell? ⟨w.heap.size, 0, none⟩ = some (.int .i64 k) := (hb1.cell (by simp)).trans (cell_lit w 25 [.int .i64 k, .int .i64 a, .int .i64 b, .int .i64 c, .string d, v] 0)
        have HB1 := Lib.hid (BB.out.trans (hb1.mono BB.out.size))
        clear hb1
        have n0 := N0.out
        have n2 := N2.out
        go_wp2_with fail
        go_ret
        exact BoolPost.of (by rw [HE.out, Bool.true_and, HX.out]) HB1.out
      · by_cases k10 : k = 10
        · have HX := Lib.hid (show decide (k ≠ 0 ∧ k ≠ 2 ∧ k ≠ 10) = false from (decide_eq_false fun h => h.2.2 k10))
          have N0 : Hid ((k != 0) = true) := Lib.hid (bnt k0)
          have N2 : Hid ((k != 2) = true) := Lib.hid (bnt k2)
          have N10 : Hid ((k != 10) = false) := Lib.hid (by rw [k10]; rfl)
          clear k0 k2 k10
          go_enter Try.func34, Try.ntmps34
          go_wp2_with fail
          refine (HV.out _ (HR.out.below BB.out)).mono ?_
          rintro e w1 ⟨rfl, hb1⟩
          have q0 : w1.cell? ⟨w.heap.size, 0, none⟩ = some (.int .i64 k) := (hb1.cell (by simp)).trans (cell_lit w 25 [.int .i64 k, .int .i64 a, .int .i64 b, .int .i64 c, .string d, v] 0)
          have HB1 := Lib.hid (BB.out.trans (hb1.mono BB.out.size))
          clear hb1
          have n0 := N0.out
          have n2 := N2.out
          have n10 := N10.out
          go_wp2_with fail
          go_ret
          exact BoolPost.of (by rw [HE.out, Bool.true_and, HX.out]) HB1.out
        · have HX := Lib.hid (show decide (k ≠ 0 ∧ k ≠ 2 ∧ k ≠ 10) = true from (decide_eq_true ⟨k0, k2, k10⟩))
          have N0 : Hid ((k != 0) = true) := Lib.hid (bnt k0)
          have N2 : Hid ((k != 2) = true) := Lib.hid (bnt k2)
          have N10 : Hid ((k != 10) = true) := Lib.hid (bnt k10)
          clear k0 k2 k10
          go_enter Try.func34, Try.ntmps34
          go_wp2_with fail
          refine (HV.out _ (HR.out.below BB.out)).mono ?_
          rintro e w1 ⟨rfl, hb1⟩
          have q0 : w1.cell? ⟨w.heap.size, 0, none⟩ = some (.int .i64 k) := (hb1.cell (by simp)).trans (cell_lit w 25 [.int .i64 k, .int .i64 a, .int .i64 b, .int .i64 c, .string d, v] 0)
          have HB1 := Lib.hid (BB.out.trans (hb1.mono BB.out.size))
          clear hb1
          have n0 := N0.out
          have n2 := N2.out
          have n10 := N10.out
          go_wp2_with fail
          go_ret
          exact BoolPost.of (by rw [HE.out, Bool.true_and, HX.out]) HB1.out
end Go.Proofs.Ytifohfclgonhfaa
