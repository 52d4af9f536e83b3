/- The tag: the contracts of tokenTag, the program's and the model's. -/
import Derived.Test.YtbmlckhjjfipbaaDoorTkMath
namespace Go.Proofs.YtbmlckhjjfipbaaDoor
open Go.RowKit
set_option linter.unusedVariables false
set_option linter.unusedSimpArgs false

set_option maxRecDepth 100000 in
set_option maxHeartbeats 1000000 in
theorem itag_any (s a t : Int) (w : World) (h : tkok s a t) : Calls Tryd.prog 19 #[.int .i64 s, .int .i64 a, .int .i64 t] w fun e w' => e = .returned (.int .i64 (tkt s a t)) ∧ w = w' := by
  obtain ⟨⟨h1, h2⟩, ⟨h3, h4⟩, h5, h6⟩ := h
  have BD := Lib.hid (tkr_bd s a t h1 h2)
  obtain ⟨p, hp⟩ : ∃ p, s * a = p := ⟨_, rfl⟩
  have hp0 : 0 ≤ p ∧ p ≤ 9504 := by rw [← hp]; exact mul_bd h1 h2 (by omega) h4
  obtain ⟨hp0, hp9⟩ := hp0
  have HP := Lib.hid hp
  have R0 := Lib.hid (show tkr s a t 0 = s + 1 from rfl)
  have R3 := Lib.hid (show tkr s a t 3 = tkt s a t from rfl)
  have w0 : IntKind.i64.wrap (s * a) = p := by rw [hp]; exact IntWalk.i64_in _ (by omega)
  clear hp
  go_enter Tryd.func19, Tryd.ntmps19
  go_wp2_with fail
  go_loopw [7, 11] (fun nv iv wr => ∃ (k : Nat) (n : Int), k ≤ 3 ∧ nv = .int .i64 n ∧ Hid (n = tkr s a t k) ∧ 0 ≤ n ∧ n ≤ 996 ∧ iv = .int .i64 k ∧ wr = w) (fun _ iv _ => (3 - intOf iv).toNat)
  case atStart => exact ⟨0, s + 1, by omega, by first | rfl | go_num, rfl, by omega, by omega, rfl, rfl⟩
  case round =>
    obtain ⟨k, n, hk, rfl, HN, hn0, hn9, rfl, rfl⟩ := hrel
    by_cases hk3 : k = 3
    · subst hk3
      have HR := Lib.hid (show n = tkt s a t from HN.out)
      clear HN
      go_wp2_with fail
      go_ret
      exact ⟨ret_int HR.out, by first | rfl | trivial⟩
    · have hlt : (k : Int) < 3 := by omega
      obtain ⟨q, hq⟩ : ∃ q, n * n = q := ⟨_, rfl⟩
      have hq0 : 0 ≤ q ∧ q ≤ 992016 := by rw [← hq]; exact mul_bd hn0 hn9 hn0 hn9
      obtain ⟨hq0, hq9⟩ := hq0
      have w1 : IntKind.i64.wrap (n * n) = q := by rw [hq]; exact IntWalk.i64_in _ (by omega)
      have HS := Lib.hid (show tkr s a t (k + 1) = (q + p + 7 * t + 11 * a + k) % 997 by rw [← hq, ← HP.out, HN.out]; rfl)
      have hm : Int.tmod (q + p + 7 * t + 11 * a + k) 997 = (q + p + 7 * t + 11 * a + k) % 997 := Int.tmod_eq_emod_of_nonneg (by omega)
      clear hq
      go_wp2_with fail
      go_roundw
      case rel => exact ⟨k + 1, _, by omega, by first | go_num | simp [hm], HS.out.symm, by omega, by omega, by go_num, by first | rfl | trivial⟩
      case measure => simp [intOf]; omega

set_option maxRecDepth 100000 in
set_option maxHeartbeats 1000000 in
theorem stag_any (s a t : Int) (w : World) (h : tkok s a t) : Calls Tryd.prog 21 #[.int .i64 s, .int .i64 a, .int .i64 t] w fun e w' => e = .returned (.int .i64 (tkt s a t)) ∧ w = w' := by
  obtain ⟨⟨h1, h2⟩, ⟨h3, h4⟩, h5, h6⟩ := h
  have BD := Lib.hid (tkr_bd s a t h1 h2)
  obtain ⟨p, hp⟩ : ∃ p, s * a = p := ⟨_, rfl⟩
  have hp0 : 0 ≤ p ∧ p ≤ 9504 := by rw [← hp]; exact mul_bd h1 h2 (by omega) h4
  obtain ⟨hp0, hp9⟩ := hp0
  have HP := Lib.hid hp
  have R0 := Lib.hid (show tkr s a t 0 = s + 1 from rfl)
  have R3 := Lib.hid (show tkr s a t 3 = tkt s a t from rfl)
  have w0 : IntKind.i64.wrap (s * a) = p := by rw [hp]; exact IntWalk.i64_in _ (by omega)
  clear hp
  go_enter Tryd.func21, Tryd.ntmps21
  go_wp2_with fail
  go_loopw [7, 8] (fun nv iv wr => ∃ (k : Nat) (n : Int), k ≤ 3 ∧ nv = .int .i64 n ∧ Hid (n = tkr s a t k) ∧ 0 ≤ n ∧ n ≤ 996 ∧ iv = .int .i64 k ∧ wr = w) (fun _ iv _ => (3 - intOf iv).toNat)
  case atStart => exact ⟨0, s + 1, by omega, by first | rfl | go_num, rfl, by omega, by omega, rfl, rfl⟩
  case round =>
    obtain ⟨k, n, hk, rfl, HN, hn0, hn9, rfl, rfl⟩ := hrel
    by_cases hk3 : k = 3
    · subst hk3
      have HR := Lib.hid (show n = tkt s a t from HN.out)
      clear HN
      go_wp2_with fail
      go_ret
      exact ⟨ret_int HR.out, by first | rfl | trivial⟩
    · have hlt : (k : Int) < 3 := by omega
      obtain ⟨q, hq⟩ : ∃ q, n * n = q := ⟨_, rfl⟩
      have hq0 : 0 ≤ q ∧ q ≤ 992016 := by rw [← hq]; exact mul_bd hn0 hn9 hn0 hn9
      obtain ⟨hq0, hq9⟩ := hq0
      have w1 : IntKind.i64.wrap (n * n) = q := by rw [hq]; exact IntWalk.i64_in _ (by omega)
      have HS := Lib.hid (show tkr s a t (k + 1) = (q + p + 7 * t + 11 * a + k) % 997 by rw [← hq, ← HP.out, HN.out]; rfl)
      have hm : Int.tmod (q + p + 7 * t + 11 * a + k) 997 = (q + p + 7 * t + 11 * a + k) % 997 := Int.tmod_eq_emod_of_nonneg (by omega)
      clear hq
      go_wp2_with fail
      go_roundw
      case rel => exact ⟨k + 1, _, by omega, by first | go_num | simp [hm], HS.out.symm, by omega, by omega, by go_num, by first | rfl | trivial⟩
      case measure => simp [intOf]; omega


end Go.Proofs.YtbmlckhjjfipbaaDoor
