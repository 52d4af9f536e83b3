/- The drawn arguments of NumberExpand. -/
import Derived.Test.YtppeacpklcdggaaDrNb
import Derived.OwnWalk
namespace Go.Proofs.Ytppeacpklcdggaa
open Go.RowKit
set_option linter.unusedVariables false
set_option linter.unusedSimpArgs false

def GotThree (P : Int → Int → Int → Prop) (w : World) (e : Ending) (w' : World) : Prop :=
  ∃ x y z : Int, P x y z ∧ e = .returned (.tuple #[.int .i64 x, .int .i64 y, .int .i64 z]) ∧ Below w.heap.size w w'
theorem exp_at (u : Int) (hu : 0 ≤ u ∧ u < 18) (y : Nat) (hy : (y : Int) < 6) : ∃ v : Int, 0 ≤ v ∧ v ≤ 17 ∧ (#[.int .i64 4, .int .i64 8, .int .i64 8, .int .i64 12, .int .i64 16, .int .i64 u] : Array Value)[y]? = some (.int .i64 v) := by
  have hy' : y < 6 := by omega
  match y, hy' with
  | 0, _ => exact ⟨4, by omega, by omega, rfl⟩
  | 1, _ => exact ⟨8, by omega, by omega, rfl⟩
  | 2, _ => exact ⟨8, by omega, by omega, rfl⟩
  | 3, _ => exact ⟨12, by omega, by omega, rfl⟩
  | 4, _ => exact ⟨16, by omega, by omega, rfl⟩
  | 5, _ => exact ⟨u, by omega, by omega, rfl⟩

set_option maxRecDepth 100000 in
set_option maxHeartbeats 1600000 in
theorem drawNExp_any (a : Option Addr) (len cap : Nat) (zs : List Int) (w : World) (h : IsRow .u8 w a len cap zs) :
    Calls Try.prog 21 #[.slice a len cap] w (GotThree (fun x y z => (-1 ≤ x ∧ x ≤ 1000) ∧ (-1 ≤ y ∧ y ≤ 1003) ∧ 0 ≤ z ∧ z ≤ 17) w) := by
  have H := Lib.hid h
  clear h
  go_enter Try.func21, Try.ntmps21
  go_wp2_with fail
  refine (open_any a len cap zs w H.out).mono ?_
  rintro e w1 ⟨rfl, hb, hR⟩
  have B1 := Lib.hid hb
  clear hb
  go_wp2_with fail
  refine (full_any _ 0 _ hR (by omega)).mono ?_
  rintro e w2 ⟨n, ⟨hn0, hn1⟩, rfl, hg2, hR2⟩
  have G2 := Lib.hid hg2
  clear hg2
  go_wp2_with fail
  refine (pick_rdr _ _ _ _ hR2 (by omega) (by omega) (by omega)).mono ?_
  rintro e w3 ⟨u, hu, rfl, hg3, hR3⟩
  have G3 := Lib.hid (G2.out.trans hg3)
  clear hg3
  have hb3 := hR3.1
  have g4 := World.grownBy_alloc w3 (.cells #[.int .i64 4, .int .i64 8, .int .i64 8, .int .i64 12, .int .i64 16, .int .i64 u] 3) (some w.heap.size)
  have hR4 : Rdr (w3.alloc (.cells #[.int .i64 4, .int .i64 8, .int .i64 8, .int .i64 12, .int .i64 16, .int .i64 u] 3)) w.heap.size _ := hR3.below ((Below.refl _ _).alloc (Nat.le_refl _) _)
  have G4 := Lib.hid (G3.out.trans g4)
  clear g4
  go_wp2_with fail
  refine (pick_rdr _ _ _ _ hR4 (by omega) (by omega) (by omega)).mono ?_
  rintro e w4 ⟨y, hy, rfl, hg4, hR5⟩
  have G5 := Lib.hid (G4.out.trans hg4)
  obtain ⟨b, hb0, hb1, hv⟩ := exp_at u ⟨by omega, hu⟩ y hy
  rw [← World.cell?_alloc_mark w3 #[.int .i64 4, .int .i64 8, .int .i64 8, .int .i64 12, .int .i64 16, .int .i64 u] 3 (0, 0) y] at hv
  have hc := hg4.cell hv (by simp; omega)
  clear hv hg4
  go_wp2_with fail
  refine (pick_rdr _ _ _ _ hR5 (by omega) (by omega) (by omega)).mono ?_
  rintro e w5 ⟨z, hz, rfl, hg5, hR6⟩
  have G6 := Lib.hid (G5.out.trans hg5)
  clear hg5
  have HR6 := Lib.hid hR6
  clear hR hR2 hR3 hR4 hR5 hR6
  by_cases hm : n - 2 + (z : Int) < 0
  · have hm2 : ¬ 0 ≤ n - 2 + (z : Int) := by omega
    go_wp2_with fail
    go_loopw [8, 9] (fun xv iv wr => ∃ (i : Nat) (x : Int), i ≤ 1 ∧ xv = .int .i64 x ∧ iv = .int .i64 i ∧ 0 ≤ x ∧ x ≤ 1003 ∧ wr = w5) (fun _ iv _ => 1 - (intOf iv).toNat)
    case atStart => exact ⟨0, _, by omega, rfl, rfl, by omega, by omega, rfl⟩
    case round =>
      obtain ⟨i, x, hi, rfl, rfl, hx0, hx9, rfl⟩ := hrel
      by_cases hi0 : i = 0
      · subst hi0
        by_cases c1 : 0 < b
        · by_cases c2 : b < 17
          · go_wp2_with fail
            go_loopw [10, 11] (fun sv kv wq => ∃ (k : Nat) (s : Int), (k : Int) ≤ b ∧ sv = .int .i64 s ∧ kv = .int .i64 k ∧ 1 ≤ s ∧ Hid (s ≤ ((2 ^ k : Nat) : Int)) ∧ wq = wr) (fun _ kv _ => (b - intOf kv).toNat)
            case atStart => exact ⟨0, 1, by omega, rfl, rfl, by omega, by show (1 : Int) ≤ _; simp, rfl⟩
            case round =>
              obtain ⟨k, s, hk, rfl, rfl, hs0, HS, rfl⟩ := hrel
              have hs9 : s ≤ 65536 := by
                have h1 := HS.out
                have h2 : 2 ^ k ≤ 2 ^ 16 := Nat.pow_le_pow_right (by omega) (by omega)
                omega
              by_cases hkb : (k : Int) < b
              · have HN := Lib.hid (show 2 * s ≤ ((2 ^ (k + 1) : Nat) : Int) by have h1 := HS.out; rw [Nat.pow_succ]; omega)
                go_wp2_with fail
                go_roundw
                case rel => exact ⟨k + 1, 2 * s, by omega, by go_num, by go_num, by omega, HN.out, by first | rfl | trivial⟩
                case measure => simp [intOf]; omega
              · have hsn : ¬ s = 0 := by omega
                have hmod : Int.tmod x s = x % s := Int.tmod_eq_emod_of_nonneg hx0
                have hm0 : 0 ≤ x % s := Int.emod_nonneg _ hsn
                have hm9 : x % s ≤ x := by
                  rcases Int.lt_or_le x s with h | h
                  · rw [Int.emod_eq_of_lt hx0 h]; exact Int.le_refl _
                  · have := Int.emod_lt_of_pos x (show 0 < s by omega); omega
                go_wp2_with fail
                go_roundw
                case rel => exact ⟨1, x % s, by omega, by first | go_num | (simp [hmod]), by go_num, by omega, by omega, by first | rfl | trivial⟩
                case measure => simp [intOf]
          · go_wp2_with fail
            go_roundw
            case rel => exact ⟨1, x, by omega, rfl, by go_num, by omega, by omega, by first | rfl | trivial⟩
            case measure => simp [intOf]
        · go_wp2_with fail
          go_roundw
          case rel => exact ⟨1, x, by omega, rfl, by go_num, by omega, by omega, by first | rfl | trivial⟩
          case measure => simp [intOf]
      · have hi1 : i = 1 := by omega
        subst hi1
        go_wp2_with fail
        refine (pick_rdr _ _ _ _ HR6.out (by omega) (by omega) (by omega)).mono ?_
        rintro e w7 ⟨t, ht, rfl, hg7, hR7⟩
        have HB := Lib.hid (below_reader B1.out (G6.out.trans hg7))
        clear hg7 hR7
        have t1 : Int.tdiv (t : Int) 11 = (t : Int) / 11 := Int.tdiv_eq_ediv_of_nonneg (by omega)
        go_wp2_with fail
        go_ret3
        exact ⟨_, _, _, ⟨⟨hn0, hn1⟩, ⟨by omega, by omega⟩, hb0, hb1⟩, rfl, HB.out⟩
  · have hm2 : 0 ≤ n - 2 + (z : Int) := by omega
    go_wp2_with fail
    go_loopw [8, 9] (fun xv iv wr => ∃ (i : Nat) (x : Int), i ≤ 1 ∧ xv = .int .i64 x ∧ iv = .int .i64 i ∧ 0 ≤ x ∧ x ≤ 1003 ∧ wr = w5) (fun _ iv _ => 1 - (intOf iv).toNat)
    case atStart => exact ⟨0, _, by omega, rfl, rfl, by omega, by omega, rfl⟩
    case round =>
      obtain ⟨i, x, hi, rfl, rfl, hx0, hx9, rfl⟩ := hrel
      by_cases hi0 : i = 0
      · subst hi0
        by_cases c1 : 0 < b
        · by_cases c2 : b < 17
          · go_wp2_with fail
            go_loopw [10, 11] (fun sv kv wq => ∃ (k : Nat) (s : Int), (k : Int) ≤ b ∧ sv = .int .i64 s ∧ kv = .int .i64 k ∧ 1 ≤ s ∧ Hid (s ≤ ((2 ^ k : Nat) : Int)) ∧ wq = wr) (fun _ kv _ => (b - intOf kv).toNat)
            case atStart => exact ⟨0, 1, by omega, rfl, rfl, by omega, by show (1 : Int) ≤ _; simp, rfl⟩
            case round =>
              obtain ⟨k, s, hk, rfl, rfl, hs0, HS, rfl⟩ := hrel
              have hs9 : s ≤ 65536 := by
                have h1 := HS.out
                have h2 : 2 ^ k ≤ 2 ^ 16 := Nat.pow_le_pow_right (by omega) (by omega)
                omega
              by_cases hkb : (k : Int) < b
              · have HN := Lib.hid (show 2 * s ≤ ((2 ^ (k + 1) : Nat) : Int) by have h1 := HS.out; rw [Nat.pow_succ]; omega)
                go_wp2_with fail
                go_roundw
                case rel => exact ⟨k + 1, 2 * s, by omega, by go_num, by go_num, by omega, HN.out, by first | rfl | trivial⟩
                case measure => simp [intOf]; omega
              · have hsn : ¬ s = 0 := by omega
                have hmod : Int.tmod x s = x % s := Int.tmod_eq_emod_of_nonneg hx0
                have hm0 : 0 ≤ x % s := Int.emod_nonneg _ hsn
                have hm9 : x % s ≤ x := by
                  rcases Int.lt_or_le x s with h | h
                  · rw [Int.emod_eq_of_lt hx0 h]; exact Int.le_refl _
                  · have := Int.emod_lt_of_pos x (show 0 < s by omega); omega
                go_wp2_with fail
                go_roundw
                case rel => exact ⟨1, x % s, by omega, by first | go_num | (simp [hmod]), by go_num, by omega, by omega, by first | rfl | trivial⟩
                case measure => simp [intOf]
          · go_wp2_with fail
            go_roundw
            case rel => exact ⟨1, x, by omega, rfl, by go_num, by omega, by omega, by first | rfl | trivial⟩
            case measure => simp [intOf]
        · go_wp2_with fail
          go_roundw
          case rel => exact ⟨1, x, by omega, rfl, by go_num, by omega, by omega, by first | rfl | trivial⟩
          case measure => simp [intOf]
      · have hi1 : i = 1 := by omega
        subst hi1
        go_wp2_with fail
        refine (pick_rdr _ _ _ _ HR6.out (by omega) (by omega) (by omega)).mono ?_
        rintro e w7 ⟨t, ht, rfl, hg7, hR7⟩
        have HB := Lib.hid (below_reader B1.out (G6.out.trans hg7))
        clear hg7 hR7
        have t1 : Int.tdiv (t : Int) 11 = (t : Int) / 11 := Int.tdiv_eq_ediv_of_nonneg (by omega)
        go_wp2_with fail
        go_ret3
        exact ⟨_, _, _, ⟨⟨hn0, hn1⟩, ⟨by omega, by omega⟩, hb0, hb1⟩, rfl, HB.out⟩

end Go.Proofs.Ytppeacpklcdggaa
