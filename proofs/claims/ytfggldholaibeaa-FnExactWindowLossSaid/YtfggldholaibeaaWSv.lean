/- The model's WindowsValid. -/
import Derived.Test.YtfggldholaibeaaL6
import Derived.Test.YtfggldholaibeaaWSay
import Derived.Test.YtfggldholaibeaaWdRow
import Derived.Test.YtfggldholaibeaaBase
import Derived.Test.YtfggldholaibeaaRtMath
namespace Go.Proofs.Ytfggldholaibeaa
open Go.RowKit
set_option linter.unusedVariables false
set_option linter.unusedSimpArgs false

set_option maxRecDepth 100000 in
set_option maxHeartbeats 4000000 in
theorem swv_any (v : Value) (l : List Wd) (w : World) (h : Wds w v l) (hl : l.length ≤ 1048576) : Calls Try.prog 9 #[v] w (BoolW w (decide (wok l))) := by
  obtain ⟨a, c, rfl, hcap, h⟩ := h
  have HC := Lib.hid h
  clear h hcap
  have CL : Hid (Says 23 #[.int .i64 (l.length : Int), .int .i64 1, .int .i64 4] (decide (1 ≤ (l.length : Int) ∧ (l.length : Int) ≤ 4))) := Lib.hid (l6In_any _ 1 4)
  go_enter Try.func9, Try.ntmps9
  go_wp2_with fail
  go_loopw [3] (fun iv wr => ∃ j : Nat, j ≤ l.length ∧ iv = .int .i64 (j : Int) ∧ Hid (∀ r ∈ l.take j, wok1 r) ∧ Hid (Below w.heap.size w wr)) (fun iv _ => l.length - (intOf iv).toNat)
  case atStart => exact ⟨0, Nat.zero_le _, rfl, Lib.hid (by simp), Below.refl _ _⟩
  case round =>
    obtain ⟨j, hj, rfl, HS, HB⟩ := hrel
    by_cases hlt : j < l.length
    · have hlt' : (j : Int) < (l.length : Int) := by omega
      obtain ⟨g, o, rfl, hc⟩ := HC.out (by rintro rfl; simp at hlt)
      obtain ⟨c0, c1, c2, c3⟩ := (hc j hlt).below HB.out (hc j hlt).lt
      have HTK := Lib.hid (takeW l j hlt)
      clear hc
      generalize l.getD j wdD = p at *
      obtain ⟨x, y, z, t⟩ := p
      simp only at c0 c1 c2 c3
      have C1 : Hid (Says 23 #[.int .i64 x, .int .i64 1, .int .i64 64] (decide (1 ≤ x ∧ x ≤ 64))) := Lib.hid (l6In_any x 1 64)
      have C2 : Hid (Says 23 #[.int .i64 y, .int .i64 1, .int .i64 64] (decide (1 ≤ y ∧ y ≤ 64))) := Lib.hid (l6In_any y 1 64)
      have C3 : Hid (Says 23 #[.int .i64 z, .int .i64 0, .int .i64 999] (decide (0 ≤ z ∧ z ≤ 999))) := Lib.hid (l6In_any z 0 999)
      have C4 : Hid (Says 23 #[.int .i64 t, .int .i64 1, .int .i64 99] (decide (1 ≤ t ∧ t ≤ 99))) := Lib.hid (l6In_any t 1 99)
      have HD := Lib.hid (wok1_dec x y z t)
      have HN : Hid ((decide (1 ≤ x ∧ x ≤ 64) && (decide (1 ≤ y ∧ y ≤ 64) && (decide (0 ≤ z ∧ z ≤ 999) && decide (1 ≤ t ∧ t ≤ 99)))) = false → decide (wok l) = false) := Lib.hid fun h => decide_eq_false fun hk => by
        rw [← HD.out] at h
        exact (of_decide_eq_false h) (hk.2 _ HTK.out.2)
      have HY : Hid ((decide (1 ≤ x ∧ x ≤ 64) && (decide (1 ≤ y ∧ y ≤ 64) && (decide (0 ≤ z ∧ z ≤ 999) && decide (1 ≤ t ∧ t ≤ 99)))) = true → ∀ r ∈ l.take (j + 1), wok1 r) := Lib.hid fun h => by
        rw [← HD.out] at h
        rw [HTK.out.1]
        intro r hr
        rcases List.mem_append.1 hr with hr | hr
        · exact HS.out r hr
        · rw [List.mem_singleton.1 hr]; exact of_decide_eq_true h
      clear HD HTK
      generalize decide (1 ≤ x ∧ x ≤ 64) = q1 at C1 HN HY
      generalize decide (1 ≤ y ∧ y ≤ 64) = q2 at C2 HN HY
      generalize decide (0 ≤ z ∧ z ≤ 999) = q3 at C3 HN HY
      generalize decide (1 ≤ t ∧ t ≤ 99) = q4 at C4 HN HY
      have HB2 := Lib.hid (HB.out.alloc HB.out.size (.cells #[.int .i64 x, .int .i64 y, .int .i64 z, .int .i64 t] 35))
      have R := Lib.hid (R4.new wr x y z t 35)
      go_wp2_with fail
      clear c0 c1 c2 c3
      generalize wr.alloc (.cells #[.int .i64 x, .int .i64 y, .int .i64 z, .int .i64 t] 35) = W at HB2 R ⊢
      obtain ⟨r0, r1, r2, r3, _⟩ := R.out
      refine (C1.out _).mono ?_
      rintro e w1 ⟨rfl, rfl⟩
      cases q1
      · have HF : Hid (decide (wok l) = false) := Lib.hid (HN.out (by simp))
        go_wp2_with fail
        go_ret
        exact ⟨ret_bool HF.out.symm, HB2.out⟩
      · go_wp2_with fail
        refine (C2.out _).mono ?_
        rintro e w2 ⟨rfl, rfl⟩
        cases q2
        · have HF : Hid (decide (wok l) = false) := Lib.hid (HN.out (by simp))
          go_wp2_with fail
          go_ret
          exact ⟨ret_bool HF.out.symm, HB2.out⟩
        · go_wp2_with fail
          refine (C3.out _).mono ?_
          rintro e w3 ⟨rfl, rfl⟩
          cases q3
          · have HF : Hid (decide (wok l) = false) := Lib.hid (HN.out (by simp))
            go_wp2_with fail
            go_ret
            exact ⟨ret_bool HF.out.symm, HB2.out⟩
          · go_wp2_with fail
            refine (C4.out _).mono ?_
            rintro e w4 ⟨rfl, rfl⟩
            cases q4
            · have HF : Hid (decide (wok l) = false) := Lib.hid (HN.out (by simp))
              go_wp2_with fail
              go_ret
              exact ⟨ret_bool HF.out.symm, HB2.out⟩
            · have HT := Lib.hid (HY.out (by simp))
              go_wp2_with fail
              go_roundw
              case rel => exact ⟨j + 1, by omega, by go_num, HT, HB2⟩
              case measure => simp [intOf]; omega
    · have hlt' : ¬ (j : Int) < (l.length : Int) := by omega
      rw [List.take_of_length_le (by omega)] at HS
      have HE : Hid (decide (1 ≤ (l.length : Int) ∧ (l.length : Int) ≤ 4) = decide (wok l)) := Lib.hid (decide_eq_decide.2 ⟨fun h => ⟨⟨by omega, by omega⟩, HS.out⟩, fun h => ⟨by have := h.1; omega, by have := h.1; omega⟩⟩)
      generalize decide (1 ≤ (l.length : Int) ∧ (l.length : Int) ≤ 4) = qe at CL HE
      go_wp2_with fail
      refine (CL.out _).mono ?_
      rintro e w1 ⟨rfl, rfl⟩
      go_wp2_with fail
      go_ret
      exact ⟨ret_bool HE.out, HB.out⟩
end Go.Proofs.Ytfggldholaibeaa
