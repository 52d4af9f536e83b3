/- szWindowS, eqWindow, eqWindowS. -/
import Derived.Test.YtfggldholaibeaaToWs
import Derived.StillTailTactics
namespace Go.Proofs.Ytfggldholaibeaa
open Go.RowKit
set_option linter.unusedVariables false
set_option linter.unusedSimpArgs false

set_option maxRecDepth 100000 in
set_option maxHeartbeats 400000 in
theorem szw_any (a : Option Addr) (len cap : Nat) (left : Int) (w : World) (h0 : 0 ≤ left) (h1 : left ≤ 1048576) (hl : len ≤ 9223372036854775807) :
    Calls Try.prog 8 #[.slice a len cap, .int .i64 left] w fun e w' => e = .returned (.int .i64 (if left < len then -1 else left - len)) ∧ w = w' := by
  by_cases h : left < len
  · rw [if_pos h]
    have hd : left - (len : Int) < 0 := by omega
    go_enter Try.func8, Try.ntmps8
    go_wp2
    go_ret
    exact ⟨rfl, rfl⟩
  · rw [if_neg h]
    have hd : ¬ left - (len : Int) < 0 := by omega
    go_enter Try.func8, Try.ntmps8
    go_wp2
    go_ret
    exact ⟨rfl, rfl⟩

set_option maxRecDepth 100000 in
set_option maxHeartbeats 1000000 in
theorem eqw_any (x y z t p q r s : Int) (w : World) : Calls Try.prog 29 #[.agg #[.int .i64 x, .int .i64 y, .int .i64 z, .int .i64 t], .agg #[.int .i64 p, .int .i64 q, .int .i64 r, .int .i64 s]] w fun e w' => e = .returned (.bool (decide (x = p ∧ y = q ∧ z = r ∧ t = s))) ∧ Below w.heap.size w w' := by
  have hB : Below w.heap.size w ((w.alloc (.cells #[.int .i64 x, .int .i64 y, .int .i64 z, .int .i64 t] 35)).alloc (.cells #[.int .i64 p, .int .i64 q, .int .i64 r, .int .i64 s] 35)) := ((Below.refl _ w).alloc (Nat.le_refl _) _).alloc (by simp) _
  have HB := Lib.hid hB
  clear hB
  by_cases h1 : x = p
  · skip
    by_cases h2 : y = q
    · skip
      by_cases h3 : z = r
      · skip
        by_cases h4 : t = s
        · skip
          have n1 : (x != p) = false := by rw [bne_eq_false_iff_eq]; exact h1
          have n2 : (y != q) = false := by rw [bne_eq_false_iff_eq]; exact h2
          have n3 : (z != r) = false := by rw [bne_eq_false_iff_eq]; exact h3
          have n4 : (t != s) = false := by rw [bne_eq_false_iff_eq]; exact h4
          have HD := Lib.hid (show decide (x = p ∧ y = q ∧ z = r ∧ t = s) = true from decide_eq_true ⟨h1, h2, h3, h4⟩)
          clear h1 h2 h3 h4
          rw [HD.out]
          go_enter Try.func29, Try.ntmps29
          go_wp2_with fail
          go_ret
          exact ⟨rfl, HB.out⟩
        · skip
          have n1 : (x != p) = false := by rw [bne_eq_false_iff_eq]; exact h1
          have n2 : (y != q) = false := by rw [bne_eq_false_iff_eq]; exact h2
          have n3 : (z != r) = false := by rw [bne_eq_false_iff_eq]; exact h3
          have n4 : (t != s) = true := by rw [bne_iff_ne]; exact h4
          have HD := Lib.hid (show decide (x = p ∧ y = q ∧ z = r ∧ t = s) = false from decide_eq_false (fun h => h4 h.2.2.2))
          clear h1 h2 h3 h4
          rw [HD.out]
          go_enter Try.func29, Try.ntmps29
          go_wp2_with fail
          go_ret
          exact ⟨rfl, HB.out⟩
      · skip
        have n1 : (x != p) = false := by rw [bne_eq_false_iff_eq]; exact h1
        have n2 : (y != q) = false := by rw [bne_eq_false_iff_eq]; exact h2
        have n3 : (z != r) = true := by rw [bne_iff_ne]; exact h3
        have HD := Lib.hid (show decide (x = p ∧ y = q ∧ z = r ∧ t = s) = false from decide_eq_false (fun h => h3 h.2.2.1))
        clear h1 h2 h3
        rw [HD.out]
        go_enter Try.func29, Try.ntmps29
        go_wp2_with fail
        go_ret
        exact ⟨rfl, HB.out⟩
    · skip
      have n1 : (x != p) = false := by rw [bne_eq_false_iff_eq]; exact h1
      have n2 : (y != q) = true := by rw [bne_iff_ne]; exact h2
      have HD := Lib.hid (show decide (x = p ∧ y = q ∧ z = r ∧ t = s) = false from decide_eq_false (fun h => h2 h.2.1))
      clear h1 h2
      rw [HD.out]
      go_enter Try.func29, Try.ntmps29
      go_wp2_with fail
      go_ret
      exact ⟨rfl, HB.out⟩
  · skip
    have n1 : (x != p) = true := by rw [bne_iff_ne]; exact h1
    have HD := Lib.hid (show decide (x = p ∧ y = q ∧ z = r ∧ t = s) = false from decide_eq_false (fun h => h1 h.1))
    clear h1
    rw [HD.out]
    go_enter Try.func29, Try.ntmps29
    go_wp2_with fail
    go_ret
    exact ⟨rfl, HB.out⟩

theorem wtake_step_eq (xs ys : List Wd) (k : Nat) (hk : k < xs.length) (hl : xs.length = ys.length) (h : xs.take k = ys.take k) :
    ((xs.getD k wdD).1 = (ys.getD k wdD).1 ∧ (xs.getD k wdD).2.1 = (ys.getD k wdD).2.1 ∧ (xs.getD k wdD).2.2.1 = (ys.getD k wdD).2.2.1 ∧ (xs.getD k wdD).2.2.2 = (ys.getD k wdD).2.2.2 → xs.take (k + 1) = ys.take (k + 1)) ∧ (¬ ((xs.getD k wdD).1 = (ys.getD k wdD).1 ∧ (xs.getD k wdD).2.1 = (ys.getD k wdD).2.1 ∧ (xs.getD k wdD).2.2.1 = (ys.getD k wdD).2.2.1 ∧ (xs.getD k wdD).2.2.2 = (ys.getD k wdD).2.2.2) → (xs == ys) = false) := by
  constructor
  · intro hz
    rw [wtake_gt xs k hk, wtake_gt ys k (by omega), h, Prod.ext hz.1 (Prod.ext hz.2.1 (Prod.ext hz.2.2.1 hz.2.2.2))]
  · intro hz
    rw [beq_eq_false_iff_ne]; rintro rfl; exact hz ⟨rfl, rfl, rfl, rfl⟩

set_option maxRecDepth 100000 in
set_option maxHeartbeats 1000000 in
theorem eqws_any (va vb : Value) (xs ys : List Wd) (w : World) (ha : Wds w va xs) (hb : Wds w vb ys) (hx : xs.length ≤ 1048576) (hy : ys.length ≤ 1048576) :
    Calls Try.prog 12 #[va, vb] w fun e w' => e = .returned (.bool (xs == ys)) ∧ Below w.heap.size w w' := by
  obtain ⟨a, c, rfl, _, ha⟩ := ha
  obtain ⟨a2, c2, rfl, _, hb⟩ := hb
  by_cases hl : xs.length = ys.length
  · have HL := Lib.hid hl
    have hnn : ((xs.length : Int) != (ys.length : Int)) = false := by rw [bne_eq_false_iff_eq]; omega
    have HC := Lib.hid ha
    have HC2 := Lib.hid hb
    have hlA : xs.length ≤ ys.length := by omega
    have hlB : ys.length ≤ xs.length := by omega
    clear hl ha hb
    go_enter Try.func12, Try.ntmps12
    go_wp2_with fail
    go_loopw [5] (fun i wr => ∃ k : Nat, k ≤ xs.length ∧ i = .int .i64 k ∧ Hid (xs.take k = ys.take k) ∧ Hid (Below w.heap.size w wr)) (fun i _ => xs.length - (intOf i).toNat)
    case atStart => exact ⟨0, Nat.zero_le _, rfl, rfl, Below.refl _ _⟩
    case round =>
      obtain ⟨k, hk, rfl, HT, HB⟩ := hrel
      by_cases hlt : k < xs.length
      · obtain ⟨g, o, rfl, hc⟩ := HC.out (by rintro rfl; simp at hlt)
        obtain ⟨g2, o2, rfl, hc2⟩ := HC2.out (by intro e; rw [e] at hlA; simp only [List.length_nil] at hlA; omega)
        obtain ⟨e1, e2, e3, e4⟩ := (hc k hlt)
        have e1 := (HB.out.cell (World.block_lt_of_cell? w _ e1)).trans e1
        have e2 := (HB.out.cell (World.block_lt_of_cell? w _ e2)).trans e2
        have e3 := (HB.out.cell (World.block_lt_of_cell? w _ e3)).trans e3
        have e4 := (HB.out.cell (World.block_lt_of_cell? w _ e4)).trans e4
        obtain ⟨f1, f2, f3, f4⟩ := (hc2 k (by omega))
        have f1 := (HB.out.cell (World.block_lt_of_cell? w _ f1)).trans f1
        have f2 := (HB.out.cell (World.block_lt_of_cell? w _ f2)).trans f2
        have f3 := (HB.out.cell (World.block_lt_of_cell? w _ f3)).trans f3
        have f4 := (HB.out.cell (World.block_lt_of_cell? w _ f4)).trans f4
        have b1 : (k : Int) < (xs.length : Int) := by omega
        have b2 : (k : Int) < (ys.length : Int) := by omega
        have HS := Lib.hid (wtake_step_eq xs ys k hlt HL.out HT.out)
        clear hc hc2
        generalize (xs.getD k wdD).1 = z1 at e1 HS
        generalize (xs.getD k wdD).2.1 = z2 at e2 HS
        generalize (xs.getD k wdD).2.2.1 = z3 at e3 HS
        generalize (xs.getD k wdD).2.2.2 = z4 at e4 HS
        generalize (ys.getD k wdD).1 = u1 at f1 HS
        generalize (ys.getD k wdD).2.1 = u2 at f2 HS
        generalize (ys.getD k wdD).2.2.1 = u3 at f3 HS
        generalize (ys.getD k wdD).2.2.2 = u4 at f4 HS
        go_wp2_with fail
        refine wp_region_still_tail 8 (by kernel_rfl) (by kernel_rfl) ?_
        obtain ⟨W, hW⟩ : ∃ W, ({ wr with drawn := wr.drawn + 1 } : World) = W := ⟨_, rfl⟩
        have k1 : W.cell? ⟨g, o + k * 4, none⟩ = some (.int .i64 z1) := by rw [← hW]; exact e1
        have k2 : W.cell? ⟨g, o + k * 4 + 1, none⟩ = some (.int .i64 z2) := by rw [← hW]; exact e2
        have k5 : W.cell? ⟨g, o + k * 4 + 2, none⟩ = some (.int .i64 z3) := by rw [← hW]; exact e3
        have k3 : W.cell? ⟨g2, o2 + k * 4, none⟩ = some (.int .i64 u1) := by rw [← hW]; exact f1
        have k4 : W.cell? ⟨g2, o2 + k * 4 + 1, none⟩ = some (.int .i64 u2) := by rw [← hW]; exact f2
        have k6 : W.cell? ⟨g2, o2 + k * 4 + 2, none⟩ = some (.int .i64 u3) := by rw [← hW]; exact f3
        have k7 : W.cell? ⟨g, o + k * 4 + 3, none⟩ = some (.int .i64 z4) := by rw [← hW]; exact e4
        have k8 : W.cell? ⟨g2, o2 + k * 4 + 3, none⟩ = some (.int .i64 u4) := by rw [← hW]; exact f4
        have HBW := Lib.hid (show Below w.heap.size w W by rw [← hW]; exact below_drewN' HB.out 1)
        rw [hW]
        clear hW e1 e2 e3 e4 f1 f2 f3 f4
        simp only [List.take_succ_cons, List.take_zero, List.drop_succ_cons, List.drop_zero]
        iterate 8 still_step
        refine wpStill_nil ?_
        go_wp2_with fail
        refine (eqw_any z1 z2 z3 z4 u1 u2 u3 u4 W).mono ?_
        rintro e w3 ⟨rfl, hb3⟩
        have HB3 := Lib.hid (HBW.out.trans (hb3.mono HBW.out.size))
        clear hb3
        by_cases hz : z1 = u1 ∧ z2 = u2 ∧ z3 = u3 ∧ z4 = u4
        · have HD := Lib.hid (show decide (z1 = u1 ∧ z2 = u2 ∧ z3 = u3 ∧ z4 = u4) = true from decide_eq_true hz)
          have HZ := Lib.hid (HS.out.1 hz)
          clear hz
          rw [HD.out]
          go_wp2_with fail
          go_roundw
          case rel => exact ⟨k + 1, by omega, by go_num, HZ.out, HB3.out⟩
          case measure => simp [intOf]; omega
        · have HD := Lib.hid (show decide (z1 = u1 ∧ z2 = u2 ∧ z3 = u3 ∧ z4 = u4) = false from decide_eq_false hz)
          have HZ := Lib.hid (HS.out.2 hz)
          clear hz
          rw [HD.out]
          go_wp2_with fail
          go_ret
          exact ⟨ret_bool HZ.out.symm, HB3.out⟩
      · have hend : (xs == ys) = true := by
          have := HT.out
          rw [List.take_of_length_le (by omega), List.take_of_length_le (by omega)] at this
          simpa using this
        have HE := Lib.hid hend
        clear hend
        go_wp2_with fail
        go_ret
        exact ⟨ret_bool HE.out.symm, HB.out⟩
  · have hnn : ((xs.length : Int) != (ys.length : Int)) = true := by rw [bne_iff_ne]; omega
    have hne : (xs == ys) = false := by
      rw [beq_eq_false_iff_ne]; rintro rfl; exact hl rfl
    have HE := Lib.hid hne
    clear ha hb hl hne
    go_enter Try.func12, Try.ntmps12
    go_wp2
    go_ret
    exact ⟨ret_bool HE.out.symm, Below.refl _ _⟩

end Go.Proofs.Ytfggldholaibeaa
