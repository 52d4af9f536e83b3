/- A drawn time. -/
import Derived.Test.YtjabejljgoafiaaRdr
import Derived.Below
import Derived.IntWalk
import Derived.OwnWalk
namespace Go.Proofs.Ytjabejljgoafiaa
open Go.RowKit
set_option linter.unusedVariables false
set_option linter.unusedSimpArgs false

theorem below_reader {w w1 w2 : World} (hb : Below w.heap.size w w1) (hg : w1.grownBy w2 (some w.heap.size)) : Below w.heap.size w w2 :=
  hb.grown hg hb.size (fun j hj => by injection hj with hj; omega)
theorem time_at (y : Nat) (hy : (y : Int) < 5) : ∃ v : Int, -1 ≤ v ∧ v ≤ 1000 ∧ (#[.int .i64 (-1), .int .i64 0, .int .i64 998, .int .i64 999, .int .i64 1000] : Array Value)[y]? = some (.int .i64 v) := by
  have hy' : y < 5 := by omega
  match y, hy' with
  | 0, _ => exact ⟨-1, by omega, by omega, rfl⟩
  | 1, _ => exact ⟨0, by omega, by omega, rfl⟩
  | 2, _ => exact ⟨998, by omega, by omega, rfl⟩
  | 3, _ => exact ⟨999, by omega, by omega, rfl⟩
  | 4, _ => exact ⟨1000, by omega, by omega, rfl⟩

def DrewTime (w : World) (b k s : Nat) (e : Ending) (w' : World) : Prop :=
  ∃ n : Int, (-1 ≤ n ∧ n ≤ 1000) ∧ e = .returned (.int .i64 n) ∧ w.grownBy w' (some b) ∧ Rdr w' b (k + s)
set_option maxRecDepth 100000 in
set_option maxHeartbeats 400000 in
theorem time_any (b k : Nat) (w : World) (R : Rdr w b k) (hk : k ≤ 900000) :
    Calls Try.prog 50 #[.pointer (some ⟨b, 0, none⟩)] w (DrewTime w b k 4) := by
  have hb := R.1
  go_enter Try.func50, Try.ntmps50
  go_wp2_with fail
  refine (pick_rdr b k _ _ R (by omega) (by omega) (by omega)).mono ?_
  rintro e w1 ⟨x, hx, rfl, hg, R2⟩
  by_cases hx0 : x = 0
  · have hx1 : ((x : Int) == 0) = true := by rw [hx0]; rfl
    clear hx0
    have hb1 := R2.1
    have g1 := World.grownBy_alloc w1 (.cells #[.int .i64 (-1), .int .i64 0, .int .i64 998, .int .i64 999, .int .i64 1000] 3) (some b)
    have R3 : Rdr (w1.alloc (.cells #[.int .i64 (-1), .int .i64 0, .int .i64 998, .int .i64 999, .int .i64 1000] 3)) b (k + 1) := R2.below ((Below.refl _ _).alloc (Nat.le_refl _) _)
    go_wp2_with fail
    refine (pick_rdr b (k + 1) _ _ R3 (by omega) (by omega) (by omega)).mono ?_
    rintro e w2 ⟨y, hy, rfl, hg2, R4⟩
    obtain ⟨v, hv0, hv1, hv⟩ := time_at y hy
    rw [← World.cell?_alloc_mark w1 #[.int .i64 (-1), .int .i64 0, .int .i64 998, .int .i64 999, .int .i64 1000] 3 (0, 0) y] at hv
    have hc := hg2.cell hv (by simp; omega)
    clear hv
    have hg3 := (World.grownBy.trans hg g1).trans hg2
    go_wp2
    go_ret
    exact ⟨v, ⟨hv0, hv1⟩, rfl, hg3, R4.le (by omega)⟩
  · have hx1 : ((x : Int) == 0) = false := by rw [beq_eq_false_iff_ne]; omega
    clear hx0
    go_wp2_with fail
    refine (pick_rdr b _ _ _ R2 (by omega) (by omega) (by omega)).mono ?_
    rintro e w2 ⟨y, hy, rfl, hg2, R3⟩
    have hg3 := hg.trans hg2
    clear hg hg2
    go_wp2_with fail
    refine (pick_rdr b _ _ _ R3 (by omega) (by omega) (by omega)).mono ?_
    rintro e w3 ⟨z, hz, rfl, hg4, R4⟩
    have hg5 := hg3.trans hg4
    clear hg3 hg4
    go_wp2
    go_ret
    exact ⟨10 * (y : Int) + (z : Int), by omega, rfl, hg5, R4.le (by omega)⟩

end Go.Proofs.Ytjabejljgoafiaa
