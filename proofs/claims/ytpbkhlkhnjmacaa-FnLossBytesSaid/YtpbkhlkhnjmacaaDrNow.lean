/- A drawn time near those of the packets in flight (l92Now). -/
import Derived.Test.YtpbkhlkhnjmacaaDrLd
import Derived.StillTailTactics
namespace Go.Proofs.Ytpbkhlkhnjmacaa
open Go.RowKit
set_option linter.unusedVariables false
set_option linter.unusedSimpArgs false

def DrewNow (w : World) (b k : Nat) (e : Ending) (w' : World) : Prop := ∃ t : Int, e = .returned (.int .i64 t) ∧ w.grownBy w' (some b) ∧ Rdr w' b (k + 3)
theorem alloc_grown (w : World) (o : Obj) (row : Option Nat) : w.grownBy (w.alloc o) row := grown_below (below_al w o) row

set_option maxRecDepth 100000 in
set_option maxHeartbeats 4000000 in
theorem drnow_any (b k : Nat) (n g : Int) (v : Value) (l : List Pk) (w : World) (R : Rdr w b k) (B : Nat) (ho : OwnPk w B v l) (hB : b < B) (hl : l.length ≤ 1048576) (hk : k ≤ 890000) :
    Calls Try.prog 41 #[.pointer (some ⟨b, 0, none⟩), .agg #[.int .i64 n, v, .int .i64 g]] w (DrewNow w b k) := by
  have HO := Lib.hid ho
  obtain ⟨a, c, rfl⟩ := OwnPk.shape ho
  clear ho
  have X := Lib.hid (C3.new w (.int .i64 n) (.slice a l.length c) (.int .i64 g) 25)
  have R1 := Lib.hid (R.below (below_al w (.cells #[.int .i64 n, .slice a l.length c, .int .i64 g] 25)))
  have hb : Hid (b < w.heap.size) := Lib.hid R.1
  obtain ⟨W1, hW1⟩ : ∃ W1, w.alloc (.cells #[.int .i64 n, .slice a l.length c, .int .i64 g] 25) = W1 := ⟨_, rfl⟩
  have G1 : Hid (Below w.heap.size w W1) := Lib.hid (by rw [← hW1]; exact below_al _ _)
  rw [hW1] at X R1
  have HW1 := Lib.hid hW1
  clear R hW1
  go_enter Try.func41, Try.ntmps41
  go_wp2_with fail
  rw [HW1.out]
  refine (pick_rdr b k _ _ R1.out (by omega) (by omega) (by omega)).mono ?_
  rintro e w2 ⟨y, hy, rfl, hg2, R2⟩
  have hnb : some w.heap.size ≠ some b := fun e => by have := Option.some.inj e; have := hb.out; omega
  have X2 := Lib.hid (X.out.kept hg2 hnb)
  have R2 := Lib.hid R2
  have G2 := Lib.hid ((grown_below G1.out (some b)).trans hg2)
  have O2 := Lib.hid (show Pks w2 (.slice a l.length c) l from ((HO.out.below (by rw [← HW1.out]; exact below_al _ _)).picked hg2 hB).pks)
  clear hg2 hnb
  obtain ⟨x0, x1, x2⟩ := X2.out
  by_cases hy0 : y = 0
  · have hb0 : ((y : Int) == 0) = true := by rw [hy0]; rfl
    clear hy0
    have R3 := Lib.hid (R2.out.below (below_al _ (.cells #[.int .i64 (-1), .int .i64 999, .int .i64 1000] 3)))
    have HL2 : Hid (b < w2.heap.size) := Lib.hid R2.out.1
    go_wp2_with fail
    refine (pick_rdr b _ _ _ R3.out (by omega) (by omega) (by omega)).mono ?_
    rintro e w5 ⟨p, hp, rfl, hg5, R5⟩
    have R5 := Lib.hid R5
    have G5 := Lib.hid ((G2.out.trans (alloc_grown w2 (.cells #[.int .i64 (-1), .int .i64 999, .int .i64 1000] 3) (some b))).trans hg5)
    obtain ⟨v, hv⟩ : ∃ v : Int, w5.cell? ⟨w2.heap.size, p, none⟩ = some (.int .i64 v) := by
      have hnb : some w2.heap.size ≠ some b := fun e => by have := Option.some.inj e; have := HL2.out; omega
      have hcell : ∀ (i : Nat) (u : Value), (w2.alloc (.cells #[.int .i64 (-1), .int .i64 999, .int .i64 1000] 3)).cell? ⟨w2.heap.size, i, none⟩ = some u → w5.cell? ⟨w2.heap.size, i, none⟩ = some u := fun i u h => hg5.cell h hnb
      rcases (by omega : p = 0 ∨ p = 1 ∨ p = 2) with rfl | rfl | rfl
      · exact ⟨-1, hcell 0 _ (by rw [World.cell?_alloc_mark]; rfl)⟩
      · exact ⟨999, hcell 1 _ (by rw [World.cell?_alloc_mark]; rfl)⟩
      · exact ⟨1000, hcell 2 _ (by rw [World.cell?_alloc_mark]; rfl)⟩
    have hp4 : p < 3 := by omega
    clear hg5
    go_wp2_with fail
    go_ret
    exact ⟨v, rfl, G5.out, R5.out.le (by omega)⟩
  · have hb0 : ((y : Int) == 0) = false := by rw [beq_eq_false_iff_ne]; omega
    clear hy0
    by_cases hl0 : 0 < l.length
    · have hl0' : (0 : Int) < (l.length : Int) := by omega
      have hdl0 := decide_eq_true hl0'
      have hdl1 := decide_eq_true hl0
      obtain ⟨a', c', he, _, hC⟩ := O2.out
      obtain ⟨gb, o, ha, hc⟩ := hC (by rintro rfl; simp at hl0)
      subst ha
      simp only [Value.slice.injEq, true_and] at he
      obtain ⟨rfl, rfl⟩ := he
      obtain ⟨i, hi⟩ : ∃ i, l.length = i + 1 := ⟨l.length - 1, by omega⟩
      obtain ⟨d0, d1, d2⟩ := hc i (by omega)
      obtain ⟨ti, hti⟩ : ∃ ti, (l.getD i pkD).2.1 = ti := ⟨_, rfl⟩
      rw [hti] at d1
      have hw : IntKind.i64.wrap ((l.length : Int) - 1) = (i : Int) := by rw [IntWalk.i64_in _ (by omega)]; omega
      have hlt : (i : Int) < (l.length : Int) := by omega
      have hlt' : i < l.length := by omega
      clear hi hti d0 d2 hc hC
      go_wp2_with fail
      refine (pick_rdr b _ _ _ R2.out (by omega) (by omega) (by omega)).mono ?_
      rintro e w3 ⟨p, hp, rfl, hg3, R3⟩
      have R3 := Lib.hid R3
      have G3 := Lib.hid (G2.out.trans hg3)
      clear hg3
      go_wp2_with fail
      refine (pick_rdr b _ _ _ R3.out (by omega) (by omega) (by omega)).mono ?_
      rintro e w4 ⟨q, hq, rfl, hg4, R4⟩
      have R4 := Lib.hid R4
      have G4 := Lib.hid (G3.out.trans hg4)
      clear hg4
      go_wp2_with fail
      go_ret
      exact ⟨_, rfl, G4.out, R4.out⟩
    · have hl0' : ¬ (0 : Int) < (l.length : Int) := by omega
      have hdl0 := decide_eq_false hl0'
      have hdl1 := decide_eq_false hl0
      go_wp2_with fail
      refine (pick_rdr b _ _ _ R2.out (by omega) (by omega) (by omega)).mono ?_
      rintro e w3 ⟨p, hp, rfl, hg3, R3⟩
      have R3 := Lib.hid R3
      have G3 := Lib.hid (G2.out.trans hg3)
      clear hg3
      go_wp2_with fail
      refine (pick_rdr b _ _ _ R3.out (by omega) (by omega) (by omega)).mono ?_
      rintro e w4 ⟨q, hq, rfl, hg4, R4⟩
      have R4 := Lib.hid R4
      have G4 := Lib.hid (G3.out.trans hg4)
      clear hg4
      go_wp2_with fail
      go_ret
      exact ⟨_, rfl, G4.out, R4.out⟩

end Go.Proofs.Ytpbkhlkhnjmacaa
