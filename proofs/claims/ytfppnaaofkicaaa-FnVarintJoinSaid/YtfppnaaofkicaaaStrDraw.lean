/- The contract of l91Bytes: some string of at most 12 bytes; only the reader moves. -/
import Derived.Test.YtfppnaaofkicaaaNumDraw
import Derived.Test.YtfppnaaofkicaaaMath
namespace Go.Proofs.Ytfppnaaofkicaaa
open Go.RowKit
set_option linter.unusedVariables false
set_option linter.unusedSimpArgs false

def DrewStr (w : World) (b k s : Nat) (e : Ending) (w' : World) : Prop :=
  ∃ t : ByteArray, t.size ≤ 12 ∧ e = .returned (.string t) ∧ w.grownBy w' (some b) ∧ Rdr w' b (k + s)

theorem enc_le (n : Int) : (encS n).size ≤ 4 := by have := encS_size n; have := vlen_cases n; omega
theorem sizeE : (⟨#[]⟩ : ByteArray).size = 0 := rfl

set_option maxHeartbeats 400000 in
theorem bytes_any (b k : Nat) (w : World) (R : Rdr w b k) (hk : k ≤ 800000) :
    Calls Try.prog 38 #[.pointer (some ⟨b, 0, none⟩)] w (DrewStr w b k 40) := by
  have cv := conv1
  go_enter Try.func38, Try.ntmps38
  go_wp2_with fail
  go_loopw [3, 4] (fun o i wr => ∃ (j : Nat) (t : ByteArray), j ≤ 3 ∧ t.size ≤ 4 * j ∧ o = .string t ∧ i = .int .i64 j ∧ w.grownBy wr (some b) ∧ Rdr wr b (k + 12 * j)) (fun _ i _ => 4 - (intOf i).toNat)
  case atStart => exact ⟨0, _, by omega, by rw [sizeE]; omega, rfl, rfl, World.grownBy.refl _ _, R⟩
  case round =>
    obtain ⟨j, t, hj, ht, rfl, rfl, hg, R1⟩ := hrel
    go_wp2_with fail
    refine (pick_rdr b _ _ _ R1 (by omega) (by omega) (by omega)).mono ?_
    rintro e w1 ⟨x, hx, rfl, hg1, R2⟩
    have hg2 := hg.trans hg1
    clear hg hg1
    by_cases hlt : j < x
    · have hlt' : (j : Int) < (x : Int) := by omega
      have hj3 : j < 3 := by omega
      go_wp2_with fail
      refine (pick_rdr b _ _ _ R2 (by omega) (by omega) (by omega)).mono ?_
      rintro e w2 ⟨y, hy, rfl, hg3, R3⟩
      have hg4 := hg2.trans hg3
      clear hg2 hg3
      by_cases hy0 : 0 < y
      · have hy0' : (0 : Int) < (y : Int) := by omega
        go_wp2_with fail
        refine (num_any b _ _ R3 (by omega)).mono ?_
        rintro e w3 ⟨n, hn, rfl, hg5, R4⟩
        have hg6 := hg4.trans hg5
        clear hg4 hg5
        go_wp2_with fail
        refine (senc_any n _).mono ?_
        rintro e w4 ⟨rfl, hb⟩
        have hg7 := Lib.grownBy_below hg6 hb
        have R5 := R4.below hb
        have hle := enc_le n
        clear hb hg6
        go_wp2_with fail
        go_roundw
        case rel => exact ⟨j + 1, t ++ encS n, by omega, by rw [size_app]; omega, rfl, by go_num, hg7, R5.le (by omega)⟩
        case measure => simp [intOf]; omega
      · have hy0' : ¬ (0 : Int) < (y : Int) := by omega
        go_wp2_with fail
        refine (pick_rdr b _ _ _ R3 (by omega) (by omega) (by omega)).mono ?_
        rintro e w3 ⟨z, hz, rfl, hg5, R4⟩
        have hg6 := hg4.trans hg5
        have hsz := size_nums [(z : Int)]
        clear hg4 hg5
        go_wp2_with fail
        go_roundw
        case rel => exact ⟨j + 1, _, by omega, by rw [size_app, size_nums]; simp; omega, rfl, by go_num, Lib.grownBy_below hg6 ((Below.refl _ _).alloc (Nat.le_refl _) _), (R4.below ((Below.refl _ _).alloc (Nat.le_refl _) _)).le (by omega)⟩
        case measure => simp [intOf]; omega
    · have hlt' : ¬ (j : Int) < (x : Int) := by omega
      go_wp2
      go_ret
      exact ⟨t, by omega, rfl, hg2, R2.le (by omega)⟩

end Go.Proofs.Ytfppnaaofkicaaa
