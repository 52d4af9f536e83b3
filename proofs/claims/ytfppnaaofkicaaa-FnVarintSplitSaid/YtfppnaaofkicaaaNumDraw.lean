/- The contract of l91Num: some number between -1 and 1000000; only the reader moves. -/
import Derived.Test.YtfppnaaofkicaaaRdr
namespace Go.Proofs.Ytfppnaaofkicaaa
open Go.RowKit
set_option linter.unusedVariables false
set_option linter.unusedSimpArgs false

/-- A draw: a number with P; only the reader moves on, by at most s. -/
def DrewInt (P : Int → Prop) (w : World) (b k s : Nat) (e : Ending) (w' : World) : Prop :=
  ∃ n : Int, P n ∧ e = .returned (.int .i64 n) ∧ w.grownBy w' (some b) ∧ Rdr w' b (k + s)

theorem lst_at (y : Nat) (hy : (y : Int) < 12) : ∃ v : Int, -1 ≤ v ∧ v ≤ 1000000 ∧ (#[.int .i64 (-1), .int .i64 0, .int .i64 1, .int .i64 62, .int .i64 63, .int .i64 64, .int .i64 65, .int .i64 16382, .int .i64 16383, .int .i64 16384, .int .i64 999999, .int .i64 1000000] : Array Value)[y]? = some (.int .i64 v) := by
  have hy' : y < 12 := by omega
  match y, hy' with
  | 0, _ => exact ⟨-1, by omega, by omega, rfl⟩
  | 1, _ => exact ⟨0, by omega, by omega, rfl⟩
  | 2, _ => exact ⟨1, by omega, by omega, rfl⟩
  | 3, _ => exact ⟨62, by omega, by omega, rfl⟩
  | 4, _ => exact ⟨63, by omega, by omega, rfl⟩
  | 5, _ => exact ⟨64, by omega, by omega, rfl⟩
  | 6, _ => exact ⟨65, by omega, by omega, rfl⟩
  | 7, _ => exact ⟨16382, by omega, by omega, rfl⟩
  | 8, _ => exact ⟨16383, by omega, by omega, rfl⟩
  | 9, _ => exact ⟨16384, by omega, by omega, rfl⟩
  | 10, _ => exact ⟨999999, by omega, by omega, rfl⟩
  | 11, _ => exact ⟨1000000, by omega, by omega, rfl⟩

def Num3 (j : Nat) (m : Int) : Prop := j ≤ 3 ∧ 0 ≤ m ∧ (j = 0 → m = 0) ∧ (j ≤ 1 → m ≤ 99) ∧ (j ≤ 2 → m ≤ 9999) ∧ m ≤ 999999
theorem Num3.step {j : Nat} {m : Int} (h : Num3 j m) (hj : j < 3) (y : Nat) (hy : (y : Int) < 100) : Num3 (j + 1) (m * 100 + y) := by
  obtain ⟨h0, h1, h2, h3, h4, h5⟩ := h
  refine ⟨by omega, by omega, by omega, fun h => ?_, fun h => ?_, ?_⟩
  · have := h2 (by omega); omega
  · have := h3 (by omega); omega
  · have := h4 (by omega); omega

set_option maxHeartbeats 400000 in
theorem num_any (b k : Nat) (w : World) (R : Rdr w b k) (hk : k ≤ 900000) :
    Calls Try.prog 30 #[.pointer (some ⟨b, 0, none⟩)] w (DrewInt (fun n => -1 ≤ n ∧ n ≤ 1000000) w b k 10) := by
  have hb := R.1
  go_enter Try.func30, Try.ntmps30
  go_wp2_with fail
  have g1 := World.grownBy_alloc w (.cells #[.int .i64 (-1), .int .i64 0, .int .i64 1, .int .i64 62, .int .i64 63, .int .i64 64, .int .i64 65, .int .i64 16382, .int .i64 16383, .int .i64 16384, .int .i64 999999, .int .i64 1000000] 3) (some b)
  have R1 : Rdr (w.alloc (.cells #[.int .i64 (-1), .int .i64 0, .int .i64 1, .int .i64 62, .int .i64 63, .int .i64 64, .int .i64 65, .int .i64 16382, .int .i64 16383, .int .i64 16384, .int .i64 999999, .int .i64 1000000] 3)) b k := R.below ((Below.refl _ _).alloc (Nat.le_refl _) _)
  refine (pick_rdr b k _ _ R1 (by omega) (by omega) (by omega)).mono ?_
  rintro e w1 ⟨x, hx, rfl, hg, R2⟩
  by_cases hx0 : x = 0
  · have hx1 : ((x : Int) == 0) = true := by rw [hx0]; rfl
    clear hx0
    go_wp2_with fail
    refine (pick_rdr b (k + 1) _ _ R2 (by omega) (by omega) (by omega)).mono ?_
    rintro e w2 ⟨y, hy, rfl, hg2, R3⟩
    obtain ⟨v, hv0, hv1, hv⟩ := lst_at y hy
    have hv' := hv
    rw [← World.cell?_alloc_mark w #[.int .i64 (-1), .int .i64 0, .int .i64 1, .int .i64 62, .int .i64 63, .int .i64 64, .int .i64 65, .int .i64 16382, .int .i64 16383, .int .i64 16384, .int .i64 999999, .int .i64 1000000] 3 (0, 0) y] at hv'
    have hc := hg2.cell (hg.cell hv' (by simp; omega)) (by simp; omega)
    clear hv hv'
    have hg3 := (World.grownBy.trans g1 hg).trans hg2
    go_wp2
    go_ret
    exact ⟨v, ⟨hv0, hv1⟩, rfl, hg3, R3.le (by omega)⟩
  · have hx1 : ((x : Int) == 0) = false := by rw [beq_eq_false_iff_ne]; omega
    clear hx0
    have hg1 := World.grownBy.trans g1 hg
    clear hg g1
    go_wp2_with fail
    go_loopw [4, 5] (fun n i wr => ∃ (j : Nat) (m : Int), Num3 j m ∧ n = .int .i64 m ∧ i = .int .i64 j ∧ w.grownBy wr (some b) ∧ Rdr wr b (k + 1 + 2 * j)) (fun _ i _ => 3 - (intOf i).toNat)
    case atStart => exact ⟨0, 0, ⟨by omega, by omega, by omega, by omega, by omega, by omega⟩, rfl, rfl, hg1, R2⟩
    case round =>
      obtain ⟨j, m, hN, rfl, rfl, hg3, R4⟩ := hrel
      have hj3 := hN.1
      have hm0 := hN.2.1
      have hm1 := hN.2.2.2.2.2
      have HN := Lib.hid hN
      clear hN
      go_wp2_with fail
      refine (pick_rdr b (k + 1 + 2 * j) _ _ R4 (by omega) (by omega) (by omega)).mono ?_
      rintro e w3 ⟨y, hy, rfl, hg4, R5⟩
      by_cases hlt : j < 1 + y
      · have hlt' : (j : Int) < 1 + (y : Int) := by omega
        have hj2 : j < 3 := by omega
        go_wp2_with fail
        refine (pick_rdr b _ _ _ R5 (by omega) (by omega) (by omega)).mono ?_
        rintro e w4 ⟨z, hz, rfl, hg5, R6⟩
        have hg6 := (hg3.trans hg4).trans hg5
        go_wp2_with fail
        go_roundw
        case rel => exact ⟨j + 1, m * 100 + z, HN.out.step hj2 z hz, rfl, by go_num, hg6, R6.le (by omega)⟩
        case measure => simp [intOf]; omega
      · have hlt' : ¬ (j : Int) < 1 + (y : Int) := by omega
        have hg6 := hg3.trans hg4
        go_wp2
        go_ret
        exact ⟨m, ⟨by omega, by omega⟩, rfl, hg6, R5.le (by omega)⟩

end Go.Proofs.Ytfppnaaofkicaaa
