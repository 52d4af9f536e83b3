/- The increase: the model's and the program's. -/
import Derived.Test.YtfggldholaibeaaWdRow
import Derived.Test.YtfggldholaibeaaWSay
import Derived.Test.YtfggldholaibeaaRtMath
import Derived.Test.YtfggldholaibeaaOwn
import Derived.BigQuiet
import Derived.Deep.QuietTactic
import Derived.Deep.Draws
namespace Go.Proofs.Ytfggldholaibeaa
open Go.RowKit
set_option linter.unusedVariables false
set_option linter.unusedSimpArgs false

def GotI (w : World) (x : Int) (e : Ending) (w' : World) : Prop := e = .returned (.int .i64 x) ∧ Below w.heap.size w w'
theorem tdiv_in {a b : Int} (ha : 0 ≤ a) (ha2 : a ≤ 9000000000000000000) (hb : 1 ≤ b) : wrap64 (a.tdiv b) = a / b := by
  rw [Int.tdiv_eq_ediv_of_nonneg ha]
  have := div_bd ha hb
  unfold wrap64; omega

set_option maxRecDepth 100000 in
set_option maxHeartbeats 4000000 in
theorem sinc_any (v : Value) (l : List Wd) (i : Nat) (w : World) (h : Wds w v l) (hok : wok l) (hi : i < l.length) : Calls Try.prog 30 #[v, .int .i64 (i : Int)] w (GotI w (winc l (l.getD i wdD))) := by
  obtain ⟨a, c, rfl, hcap, h⟩ := h
  have HC := Lib.hid h
  have HK := Lib.hid hok
  have hl4 : l.length ≤ 4 := hok.1.2
  obtain ⟨r, hr⟩ : ∃ r, winc l (l.getD i wdD) = r := ⟨_, rfl⟩
  rw [hr]
  have HR := Lib.hid hr
  clear h hcap hok hr
  go_enter Try.func30, Try.ntmps30
  go_wp2_with fail
  go_loopw [5, 6, 7] (fun bv sv iv wr => ∃ j : Nat, j ≤ l.length ∧ iv = .int .i64 (j : Int) ∧ bv = .int .i64 (wbest (l.take j)) ∧ sv = .int .i64 (wsum (l.take j)) ∧ Hid (Below w.heap.size w wr)) (fun _ _ iv _ => l.length - (intOf iv).toNat)
  case atStart => exact ⟨0, Nat.zero_le _, rfl, rfl, rfl, Below.refl _ _⟩
  case round =>
    obtain ⟨j, hj, rfl, rfl, rfl, HB⟩ := hrel
    by_cases hlt : j < l.length
    · have hlt' : (j : Int) < (l.length : Int) := by omega
      obtain ⟨g, o, rfl, hc⟩ := HC.out (by rintro rfl; simp at hlt)
      obtain ⟨c0, c1, c2, c3⟩ := (hc j hlt).below HB.out (hc j hlt).lt
      have hp := HK.out.2 _ (takeW l j hlt).2
      have HT := Lib.hid (takeW l j hlt).1
      have hbd := part_bd HK.out j
      have HS1 : Hid (wbest (l.take (j + 1)) = max (wbest (l.take j)) (wb (l.getD j wdD))) := Lib.hid (by rw [HT.out, wbest_snoc])
      have HS2 : Hid (wsum (l.take (j + 1)) = wsum (l.take j) + wq (l.getD j wdD)) := Lib.hid (by rw [HT.out, wsum_snoc])
      have hq := wb_bd hp
      have hs := wq_bd hp
      have k := sq_pos hp.2.2.2
      clear hc HT
      generalize l.getD j wdD = p at *
      generalize wbest (l.take j) = b at *
      generalize wsum (l.take j) = s at *
      obtain ⟨x, y, z, t⟩ := p
      simp only at c0 c1 c2 c3
      obtain ⟨⟨x1, x2⟩, _, _, t1, t2⟩ := hp
      simp only at x1 x2 t1 t2 k
      have ht0 : t ≠ 0 := by omega
      obtain ⟨m, hm⟩ : ∃ m, t * t = m := ⟨_, rfl⟩
      rw [hm] at k
      have hm0 : m ≠ 0 := by omega
      have e1 : wb (x, y, z, t) = (x * 100000000) / m := by rw [← hm]; rfl
      have e2 : wq (x, y, z, t) = (x * 10000) / t := rfl
      have w1 : wrap64 (x * 100000000) = x * 100000000 := by unfold wrap64; omega
      have w2 : wrap64 (x * 10000) = x * 10000 := by unfold wrap64; omega
      have w3 : wrap64 m = m := by unfold wrap64; omega
      have w4 : wrap64 ((x * 100000000).tdiv m) = wb (x, y, z, t) := by rw [e1]; exact tdiv_in (by omega) (by omega) k.1
      have w5 : wrap64 ((x * 10000).tdiv t) = wq (x, y, z, t) := by rw [e2]; exact tdiv_in (by omega) (by omega) t1
      clear e1 e2
      generalize wb (x, y, z, t) = q1 at *
      generalize wq (x, y, z, t) = q2 at *
      have w6 : wrap64 (s + q2) = s + q2 := by unfold wrap64; omega
      have hB := Lib.hid hbd
      clear hbd k hq hs x1 x2 t1 t2
      by_cases hmx : b < q1
      all_goals
        go_wp2_with fail
        go_roundw
        case rel => exact ⟨j + 1, by omega, by go_num, by rw [HS1.out]; congr 1; omega, by rw [HS2.out, w6], HB⟩
        case measure => simp [intOf]; omega
    · have hlt' : ¬ (j : Int) < (l.length : Int) := by omega
      rw [List.take_of_length_le (show l.length ≤ j by omega)]
      obtain ⟨g, o, rfl, hc⟩ := HC.out (by rintro rfl; simp at hi)
      obtain ⟨c0, c1, c2, c3⟩ := (hc i hi).below HB.out (hc i hi).lt
      have hii : (i : Int) < (l.length : Int) := by omega
      have hp := HK.out.2 _ (takeW l i hi).2
      have hbd := whole_bd HK.out
      have k := sq_bd hbd.2
      have HE : Hid (min (1000 * wbest l / (wsum l * wsum l)) (1000 / (l.getD i wdD).1) = r) := Lib.hid HR.out
      clear hc HR
      generalize l.getD i wdD = p at *
      generalize wbest l = b at *
      generalize wsum l = s at *
      obtain ⟨x, y, z, t⟩ := p
      simp only at c0 c1 c2 c3
      obtain ⟨⟨x1, x2⟩, _, _, _⟩ := hp
      simp only at x1 x2
      have hx0 : x ≠ 0 := by omega
      obtain ⟨m, hm⟩ : ∃ m, s * s = m := ⟨_, rfl⟩
      rw [hm] at k HE
      have hm0 : m ≠ 0 := by omega
      have w1 : wrap64 (1000 * b) = 1000 * b := by unfold wrap64; omega
      have w3 : wrap64 m = m := by unfold wrap64; omega
      have w4 : wrap64 ((1000 * b).tdiv m) = (1000 * b) / m := tdiv_in (by omega) (by omega) k.1
      have w5 : wrap64 ((1000 : Int).tdiv x) = 1000 / x := tdiv_in (by omega) (by omega) x1
      simp only at HE
      generalize (1000 * b) / m = q1 at *
      generalize 1000 / x = q2 at *
      have hB := Lib.hid hbd
      clear hbd k x1 x2
      by_cases hmx : q1 ≤ q2
      all_goals
        go_wp2_with fail
        go_quiet (fail)
        go_wp2_with fail
        go_ret
        exact ⟨ret_int (by rw [← HE.out]; omega), below_drewN' HB.out _⟩
end Go.Proofs.Ytfggldholaibeaa
