/- A drawn packet number: l91Full; the drawn arguments of chapter 3 that are only numbers. -/
import Derived.Test.YtppeacpklcdggaaRdr
import Derived.Below
import Derived.IntWalk
namespace Go.Proofs.Ytppeacpklcdggaa
open Go.RowKit
set_option linter.unusedVariables false
set_option linter.unusedSimpArgs false

def DrewFull (w : World) (b k s : Nat) (e : Ending) (w' : World) : Prop :=
  ∃ n : Int, (-1 ≤ n ∧ n ≤ 1000) ∧ e = .returned (.int .i64 n) ∧ w.grownBy w' (some b) ∧ Rdr w' b (k + s)
def fullCells : Array Value := #[.int .i64 (-1), .int .i64 0, .int .i64 1, .int .i64 127, .int .i64 128, .int .i64 255, .int .i64 256, .int .i64 998, .int .i64 999, .int .i64 1000]
theorem full_at (y : Nat) (hy : (y : Int) < 10) : ∃ v : Int, -1 ≤ v ∧ v ≤ 1000 ∧ (#[.int .i64 (-1), .int .i64 0, .int .i64 1, .int .i64 127, .int .i64 128, .int .i64 255, .int .i64 256, .int .i64 998, .int .i64 999, .int .i64 1000] : Array Value)[y]? = some (.int .i64 v) := by
  have hy' : y < 10 := by omega
  match y, hy' with
  | 0, _ => exact ⟨-1, by omega, by omega, rfl⟩
  | 1, _ => exact ⟨0, by omega, by omega, rfl⟩
  | 2, _ => exact ⟨1, by omega, by omega, rfl⟩
  | 3, _ => exact ⟨127, by omega, by omega, rfl⟩
  | 4, _ => exact ⟨128, by omega, by omega, rfl⟩
  | 5, _ => exact ⟨255, by omega, by omega, rfl⟩
  | 6, _ => exact ⟨256, by omega, by omega, rfl⟩
  | 7, _ => exact ⟨998, by omega, by omega, rfl⟩
  | 8, _ => exact ⟨999, by omega, by omega, rfl⟩
  | 9, _ => exact ⟨1000, by omega, by omega, rfl⟩

set_option maxRecDepth 100000 in
set_option maxHeartbeats 400000 in
theorem full_any (b k : Nat) (w : World) (R : Rdr w b k) (hk : k ≤ 900000) :
    Calls Try.prog 24 #[.pointer (some ⟨b, 0, none⟩)] w (DrewFull w b k 4) := by
  have hb := R.1
  go_enter Try.func24, Try.ntmps24
  go_wp2_with fail
  have g1 := World.grownBy_alloc w (.cells #[.int .i64 (-1), .int .i64 0, .int .i64 1, .int .i64 127, .int .i64 128, .int .i64 255, .int .i64 256, .int .i64 998, .int .i64 999, .int .i64 1000] 3) (some b)
  have R1 : Rdr (w.alloc (.cells #[.int .i64 (-1), .int .i64 0, .int .i64 1, .int .i64 127, .int .i64 128, .int .i64 255, .int .i64 256, .int .i64 998, .int .i64 999, .int .i64 1000] 3)) b k := R.below ((Below.refl _ _).alloc (Nat.le_refl _) _)
  refine (pick_rdr b k _ _ R1 (by omega) (by omega) (by omega)).mono ?_
  rintro e w1 ⟨x, hx, rfl, hg, R2⟩
  by_cases hx0 : x = 0
  · have hx1 : ((x : Int) == 0) = true := by rw [hx0]; rfl
    clear hx0
    go_wp2_with fail
    refine (pick_rdr b (k + 1) _ _ R2 (by omega) (by omega) (by omega)).mono ?_
    rintro e w2 ⟨y, hy, rfl, hg2, R3⟩
    obtain ⟨v, hv0, hv1, hv⟩ := full_at y hy
    have hv' := hv
    rw [← World.cell?_alloc_mark w #[.int .i64 (-1), .int .i64 0, .int .i64 1, .int .i64 127, .int .i64 128, .int .i64 255, .int .i64 256, .int .i64 998, .int .i64 999, .int .i64 1000] 3 (0, 0) y] at hv'
    have hc := hg2.cell (hg.cell hv' (by simp; omega)) (by simp; omega)
    clear hv hv'
    have hg3 := (World.grownBy.trans g1 hg).trans hg2
    go_wp2
    go_ret
    exact ⟨v, ⟨hv0, hv1⟩, rfl, hg3, R3.le (by omega)⟩
  · have hx1 : ((x : Int) == 0) = false := by rw [beq_eq_false_iff_ne]; omega
    clear hx0
    have hg1 := World.grownBy.trans g1 hg
    clear hg g1
    go_wp2_with fail
    refine (pick_rdr b _ _ _ R2 (by omega) (by omega) (by omega)).mono ?_
    rintro e w2 ⟨y, hy, rfl, hg2, R3⟩
    go_wp2_with fail
    refine (pick_rdr b _ _ _ R3 (by omega) (by omega) (by omega)).mono ?_
    rintro e w3 ⟨z, hz, rfl, hg3, R4⟩
    have hg4 := (hg1.trans hg2).trans hg3
    go_wp2_with fail
    go_ret
    exact ⟨_, ⟨by omega, by omega⟩, rfl, hg4, R4.le (by omega)⟩

end Go.Proofs.Ytppeacpklcdggaa
