/- WindowTotal: the model's and the program's. -/
import Derived.Test.YtfggldholaibeaaWSw
import Derived.Test.YtfggldholaibeaaWIv
namespace Go.Proofs.Ytfggldholaibeaa
open Go.RowKit
set_option linter.unusedVariables false
set_option linter.unusedSimpArgs false

set_option maxRecDepth 100000 in
set_option maxHeartbeats 4000000 in
theorem swt_any (v : Value) (l : List Wd) (w : World) (h : Wds w v l) (hl : l.length ≤ 1048576) : Calls Try.prog 21 #[v] w (GotI w (wtotv l)) := by
  have HW := Lib.hid h
  have CV := Lib.hid (swv_any v l w h hl)
  obtain ⟨a, c, rfl, _, h⟩ := h
  have HC := Lib.hid h
  clear h
  by_cases hok : wok l
  · rw [decide_eq_true hok] at CV
    have HE : Hid (wtotv l = wtot l) := Lib.hid (if_pos hok)
    rw [HE.out]
    have hl4 : l.length ≤ 4 := hok.1.2
    have HK := Lib.hid hok
    clear hok HE
    obtain ⟨r, hr⟩ : ∃ r, wtot l = r := ⟨_, rfl⟩
    rw [hr]
    have HR := Lib.hid hr
    clear hr
    go_enter Try.func21, Try.ntmps21
    go_wp2_with fail
    refine CV.out.mono ?_
    rintro e W1 ⟨rfl, hb⟩
    have B1 := Lib.hid hb
    clear hb
    go_wp2_with fail
    go_loopw [3, 4] (fun sv iv wr => ∃ j : Nat, j ≤ l.length ∧ iv = .int .i64 (j : Int) ∧ sv = .int .i64 (wtot (l.take j)) ∧ Hid (Below w.heap.size w wr)) (fun _ iv _ => l.length - (intOf iv).toNat)
    case atStart => exact ⟨0, Nat.zero_le _, rfl, rfl, B1⟩
    case round =>
      obtain ⟨j, hj, rfl, rfl, HB⟩ := hrel
      by_cases hlt : j < l.length
      · have hlt' : (j : Int) < (l.length : Int) := by omega
        obtain ⟨g, o, rfl, hc⟩ := HC.out (by rintro rfl; simp at hlt)
        obtain ⟨c0, c1, c2, c3⟩ := (hc j hlt).below HB.out (hc j hlt).lt
        have hp := (HK.out.2 _ (takeW l j hlt).2).1
        have HT := Lib.hid (takeW l j hlt).1
        have hbd := (part_bd HK.out j).2.2
        have HS : Hid (wtot (l.take (j + 1)) = wtot (l.take j) + (l.getD j wdD).1) := Lib.hid (by rw [HT.out, wtot_snoc])
        clear hc HT
        generalize l.getD j wdD = p at *
        generalize wtot (l.take j) = s at *
        obtain ⟨x, y, z, t⟩ := p
        simp only at c0 c1 c2 c3 hp
        have w6 : wrap64 (s + x) = s + x := by unfold wrap64; omega
        have HB2 := HB
        go_wp2_with fail
        go_roundw
        case rel => exact ⟨j + 1, by omega, by go_num, by rw [HS.out], HB2⟩
        case measure => simp [intOf]; omega
      · have hlt' : ¬ (j : Int) < (l.length : Int) := by omega
        rw [List.take_of_length_le (show l.length ≤ j by omega), HR.out]
        go_wp2_with fail
        go_ret
        exact ⟨rfl, HB.out⟩
  · rw [decide_eq_false hok] at CV
    have HE : Hid (wtotv l = -1) := Lib.hid (if_neg hok)
    rw [HE.out]
    clear hok HE
    go_enter Try.func21, Try.ntmps21
    go_wp2_with fail
    refine CV.out.mono ?_
    rintro e W1 ⟨rfl, hb⟩
    have B1 := Lib.hid hb
    clear hb
    go_wp2_with fail
    go_ret
    exact ⟨rfl, B1.out⟩

set_option maxRecDepth 100000 in
set_option maxHeartbeats 4000000 in
theorem iwt_any (v : Value) (l : List Wd) (w : World) (h : Wds w v l) (hl : l.length ≤ 1048576) : Calls Try.prog 22 #[v] w (GotI w (wtotv l)) := by
  have HW := Lib.hid h
  have CV := Lib.hid (iwv_any v l w h hl)
  obtain ⟨a, c, rfl, _, h⟩ := h
  have HC := Lib.hid h
  clear h
  by_cases hok : wok l
  · rw [decide_eq_true hok] at CV
    have HE : Hid (wtotv l = wtot l) := Lib.hid (if_pos hok)
    rw [HE.out]
    have hl4 : l.length ≤ 4 := hok.1.2
    have HK := Lib.hid hok
    clear hok HE
    obtain ⟨r, hr⟩ : ∃ r, wtot l = r := ⟨_, rfl⟩
    rw [hr]
    have HR := Lib.hid hr
    clear hr
    go_enter Try.func22, Try.ntmps22
    go_wp2_with fail
    refine CV.out.mono ?_
    rintro e W1 ⟨rfl, hb⟩
    have B1 := Lib.hid hb
    clear hb
    go_wp2_with fail
    go_loopw [3, 11] (fun sv iv wr => ∃ j : Nat, j ≤ l.length ∧ iv = .int .i64 (j : Int) ∧ sv = .int .i64 (wtot (l.take j)) ∧ Hid (Below w.heap.size w wr)) (fun _ iv _ => l.length - (intOf iv).toNat)
    case atStart => exact ⟨0, Nat.zero_le _, rfl, rfl, B1⟩
    case round =>
      obtain ⟨j, hj, rfl, rfl, HB⟩ := hrel
      by_cases hlt : j < l.length
      · have hlt' : (j : Int) < (l.length : Int) := by omega
        obtain ⟨g, o, rfl, hc⟩ := HC.out (by rintro rfl; simp at hlt)
        obtain ⟨c0, c1, c2, c3⟩ := (hc j hlt).below HB.out (hc j hlt).lt
        have hp := (HK.out.2 _ (takeW l j hlt).2).1
        have HT := Lib.hid (takeW l j hlt).1
        have hbd := (part_bd HK.out j).2.2
        have HS : Hid (wtot (l.take (j + 1)) = wtot (l.take j) + (l.getD j wdD).1) := Lib.hid (by rw [HT.out, wtot_snoc])
        clear hc HT
        generalize l.getD j wdD = p at *
        generalize wtot (l.take j) = s at *
        obtain ⟨x, y, z, t⟩ := p
        simp only at c0 c1 c2 c3 hp
        have w6 : wrap64 (s + x) = s + x := by unfold wrap64; omega
        have HB2 := Lib.hid (HB.out.alloc HB.out.size (.cells #[.int .i64 x, .int .i64 y, .int .i64 z, .int .i64 t] 35))
        go_wp2_with fail
        go_roundw
        case rel => exact ⟨j + 1, by omega, by go_num, by rw [HS.out], HB2⟩
        case measure => simp [intOf]; omega
      · have hlt' : ¬ (j : Int) < (l.length : Int) := by omega
        rw [List.take_of_length_le (show l.length ≤ j by omega), HR.out]
        go_wp2_with fail
        go_ret
        exact ⟨rfl, HB.out⟩
  · rw [decide_eq_false hok] at CV
    have HE : Hid (wtotv l = -1) := Lib.hid (if_neg hok)
    rw [HE.out]
    clear hok HE
    go_enter Try.func22, Try.ntmps22
    go_wp2_with fail
    refine CV.out.mono ?_
    rintro e W1 ⟨rfl, hb⟩
    have B1 := Lib.hid hb
    clear hb
    go_wp2_with fail
    go_ret
    exact ⟨rfl, B1.out⟩
end Go.Proofs.Ytfggldholaibeaa
