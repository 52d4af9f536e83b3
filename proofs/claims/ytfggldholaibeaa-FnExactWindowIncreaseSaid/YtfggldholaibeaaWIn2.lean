/- The increase: the program's. -/
import Derived.Test.YtfggldholaibeaaWInc
namespace Go.Proofs.Ytfggldholaibeaa
open Go.RowKit
set_option linter.unusedVariables false
set_option linter.unusedSimpArgs false

/-- The array of windows at block b: the list l, and how many. -/
structure Wn (w : World) (b : Nat) (l : List Wd) : Prop where
  rows : ∀ i, i < l.length → WdAt w b (i * 4) (l.getD i wdD)
  cnt : w.cell? ⟨b, 16, none⟩ = some (.int .i64 (l.length : Int))
theorem Wn.lt {w : World} {b : Nat} {l : List Wd} (h : Wn w b l) : b < w.heap.size := World.block_lt_of_cell? w _ h.cnt
theorem Wn.below {w w' : World} {b : Nat} {l : List Wd} (h : Wn w b l) (hb : Below w.heap.size w w') : Wn w' b l :=
  ⟨fun i hi => (h.rows i hi).below hb h.lt, (hb.cell (p := ⟨b, 16, none⟩) h.lt).trans h.cnt⟩
theorem Wn.wds {w : World} {b : Nat} {l : List Wd} (h : Wn w b l) (hl : l.length ≤ 4) : Wds w (.slice (some ⟨b, 0, none⟩) l.length 4) l :=
  ⟨_, 4, rfl, hl, fun _ => ⟨b, 0, rfl, fun i hi => by rw [Nat.zero_add]; exact h.rows i hi⟩⟩

set_option maxRecDepth 100000 in
set_option maxHeartbeats 4000000 in
theorem iinc_any (b : Nat) (l : List Wd) (i : Nat) (w : World) (h : Wn w b l) (hok : wok l) (hi : i < l.length) : Calls Try.prog 32 #[.pointer (some ⟨b, 0, none⟩), .int .i64 (i : Int)] w (GotI w (winc l (l.getD i wdD))) := by
  have HC := Lib.hid h
  have HK := Lib.hid hok
  have hl4 : l.length ≤ 4 := hok.1.2
  obtain ⟨r, hr⟩ : ∃ r, winc l (l.getD i wdD) = r := ⟨_, rfl⟩
  rw [hr]
  have HR := Lib.hid hr
  have hcn := h.cnt
  have hl4' : (l.length : Int) ≤ 4 := by omega
  clear h hok hr
  go_enter Try.func32, Try.ntmps32
  go_wp2_with fail
  go_quiet (fail)
  have HB0 := Lib.hid (below_drewN' (Below.refl w.heap.size w) nq)
  generalize w.drewN nq = w0 at HB0 ⊢
  clear hcn
  go_wp2_with fail
  go_loopw [5, 6, 21] (fun bv sv iv wr => ∃ j : Nat, j ≤ l.length ∧ iv = .int .i64 (j : Int) ∧ bv = .int .i64 (wbest (l.take j)) ∧ sv = .int .i64 (wsum (l.take j)) ∧ Hid (Below w.heap.size w wr)) (fun _ _ iv _ => l.length - (intOf iv).toNat)
  case atStart => exact ⟨0, Nat.zero_le _, rfl, rfl, rfl, HB0⟩
  case round =>
    obtain ⟨j, hj, rfl, rfl, rfl, HB⟩ := hrel
    by_cases hlt : j < l.length
    · have hlt' : (j : Int) < (l.length : Int) := by omega
      obtain ⟨c0, c1, c2, c3⟩ := (HC.out.below HB.out).rows j hlt
      have hp := HK.out.2 _ (takeW l j hlt).2
      have HT := Lib.hid (takeW l j hlt).1
      have hbd := part_bd HK.out j
      have HS1 : Hid (wbest (l.take (j + 1)) = max (wbest (l.take j)) (wb (l.getD j wdD))) := Lib.hid (by rw [HT.out, wbest_snoc])
      have HS2 : Hid (wsum (l.take (j + 1)) = wsum (l.take j) + wq (l.getD j wdD)) := Lib.hid (by rw [HT.out, wsum_snoc])
      have hq := wb_bd hp
      have hs := wq_bd hp
      have k := sq_pos hp.2.2.2
      clear HT
      generalize l.getD j wdD = p at *
      generalize wbest (l.take j) = b0 at *
      generalize wsum (l.take j) = s at *
      obtain ⟨x, y, z, t⟩ := p
      simp only at c0 c1 c2 c3
      have HB2 := Lib.hid (HB.out.alloc HB.out.size (.cells #[.int .i64 x, .int .i64 y, .int .i64 z, .int .i64 t] 35))
      have RR := Lib.hid (R4.new wr x y z t 35)
      go_wp2_with fail
      clear c0 c1 c2 c3
      generalize wr.alloc (.cells #[.int .i64 x, .int .i64 y, .int .i64 z, .int .i64 t] 35) = W at HB2 RR ⊢
      obtain ⟨r0, r1, r2, r3, _⟩ := RR.out
      go_quiet (fail)
      have HB3 := Lib.hid (below_drewN' HB2.out nq)
      obtain ⟨⟨x1, x2⟩, _, _, t1, t2⟩ := hp
      simp only at x1 x2 t1 t2 k
      have ht0 : t ≠ 0 := by omega
      obtain ⟨m, hm⟩ : ∃ m, t * t = m := ⟨_, rfl⟩
      rw [hm] at k
      have hm0 : m ≠ 0 := by omega
      have e1 : wb (x, y, z, t) = (x * 100000000) / m := by rw [← hm]; rfl
      have e2 : wq (x, y, z, t) = (x * 10000) / t := rfl
      have w0 : wrap64 (x * 10000) = x * 10000 := by unfold wrap64; omega
      have w1 : wrap64 (x * 10000 * 10000) = x * 100000000 := by unfold wrap64; omega
      have w3 : wrap64 m = m := by unfold wrap64; omega
      have w4 : wrap64 ((x * 100000000).tdiv m) = wb (x, y, z, t) := by rw [e1]; exact tdiv_in (by omega) (by omega) k.1
      have w5 : wrap64 ((x * 10000).tdiv t) = wq (x, y, z, t) := by rw [e2]; exact tdiv_in (by omega) (by omega) t1
      clear e1 e2 r0 r1 r2 r3
      generalize wb (x, y, z, t) = q1 at *
      generalize wq (x, y, z, t) = q2 at *
      have w6 : wrap64 (s + q2) = s + q2 := by unfold wrap64; omega
      have hB := Lib.hid hbd
      clear hbd k hq hs x1 x2 t1 t2
      by_cases hmx : b0 < q1
      all_goals
        go_wp2_with fail
        go_roundw
        case rel => exact ⟨j + 1, by omega, by go_num, by rw [HS1.out]; congr 1; omega, by rw [HS2.out, w6], HB3⟩
        case measure => simp [intOf]; omega
    · have hlt' : ¬ (j : Int) < (l.length : Int) := by omega
      rw [List.take_of_length_le (show l.length ≤ j by omega)]
      obtain ⟨c0, c1, c2, c3⟩ := (HC.out.below HB.out).rows i hi
      have hii : (i : Int) < 4 := by omega
      have hp := HK.out.2 _ (takeW l i hi).2
      have hbd := whole_bd HK.out
      have k := sq_bd hbd.2
      have HE : Hid (min (1000 * wbest l / (wsum l * wsum l)) (1000 / (l.getD i wdD).1) = r) := Lib.hid HR.out
      clear HR
      generalize l.getD i wdD = p at *
      generalize wbest l = b0 at *
      generalize wsum l = s at *
      obtain ⟨x, y, z, t⟩ := p
      simp only at c0 c1 c2 c3
      obtain ⟨⟨x1, x2⟩, _, _, _⟩ := hp
      simp only at x1 x2
      have hx0 : x ≠ 0 := by omega
      obtain ⟨m, hm⟩ : ∃ m, s * s = m := ⟨_, rfl⟩
      rw [hm] at k HE
      have hm0 : m ≠ 0 := by omega
      have w1 : wrap64 (1000 * b0) = 1000 * b0 := by unfold wrap64; omega
      have w3 : wrap64 m = m := by unfold wrap64; omega
      have w4 : wrap64 ((1000 * b0).tdiv m) = (1000 * b0) / m := tdiv_in (by omega) (by omega) k.1
      have w5 : wrap64 ((1000 : Int).tdiv x) = 1000 / x := tdiv_in (by omega) (by omega) x1
      simp only at HE
      generalize (1000 * b0) / m = q1 at *
      generalize 1000 / x = q2 at *
      have hB := Lib.hid hbd
      clear hbd k x1 x2
      by_cases hmx : q1 ≤ q2
      all_goals
        go_wp2_with fail
        go_ret
        exact ⟨ret_int (by rw [← HE.out]; omega), HB.out⟩
end Go.Proofs.Ytfggldholaibeaa
