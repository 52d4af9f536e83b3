/- The program's functions of chapter 1 that frames use: size, encode, readVarint, VarintMinimal. -/
import Derived.Test.YthflokonihegbaaSVar
import Derived.Laws.BytesArg
import Derived.Handy
import Derived.Laws.BitsAllLaws
namespace Go.Proofs.Ythflokonihegbaa
open Go.RowKit
set_option linter.unusedVariables false
set_option linter.unusedSimpArgs false

set_option maxRecDepth 100000 in
set_option maxHeartbeats 400000 in
theorem size_any (n : Int) (w : World) : Calls Try.prog 93 #[.int .i64 n] w fun e w' => e = .returned (.int .i64 (vlen n)) ∧ w = w' := by
  by_cases h1 : n < 0
  · go_enter Try.func93, Try.ntmps93
    go_wp2
    go_ret
    exact ⟨ret_int (by unfold vlen; omega), rfl⟩
  · by_cases h2 : 1073741823 < n
    all_goals
      go_enter Try.func93, Try.ntmps93
      go_wp2
      all_goals
        go_ret
        exact ⟨ret_int (by unfold vlen; omega), rfl⟩
theorem or64 (k : Int) (h0 : 0 ≤ k) (h1 : k < 64) : bits BinOp.or IntKind.u8 64 k = 64 + k := by
  obtain ⟨m, rfl⟩ := Int.eq_ofNat_of_zero_le h0
  have hm : m < 64 := by omega
  have H : ∀ m : Fin 64, bits BinOp.or IntKind.u8 64 (m.val : Int) = 64 + (m.val : Int) := by decide
  exact H ⟨m, hm⟩
set_option maxRecDepth 100000 in
set_option maxHeartbeats 400000 in
theorem ienc_any (n : Int) (w : World) : Calls Try.prog 81 #[.int .i64 n] w fun e w' => e = .returned (.string (encS n)) ∧ Below w.heap.size w w' := by
  by_cases g0 : n < 0 ∨ 1073741823 < n
  · have hv : vlen n = 0 := by unfold vlen; omega
    have HV := Lib.hid hv
    clear hv
    go_enter Try.func81, Try.ntmps81
    go_wp2_with (go_at_call 93; refine (size_any _ _).mono ?_; rw [HV.out]; rintro e w' ⟨rfl, rfl⟩)
    go_ret
    exact ⟨ret_str (by unfold encS; rw [encN_0 HV.out]; rfl), Below.refl _ _⟩
  by_cases g1 : n < 64
  · have hv : vlen n = 1 := by unfold vlen; omega
    have HV := Lib.hid hv
    have h0 : 0 ≤ n := by omega
    clear hv g0
    have cv := conv1
    go_enter Try.func81, Try.ntmps81
    go_wp2_with (go_at_call 93; refine (size_any _ _).mono ?_; rw [HV.out]; rintro e w' ⟨rfl, rfl⟩)
    go_ret
    exact ⟨ret_str (str_of (encN_1 HV.out).symm), (Below.refl _ _).alloc (Nat.le_refl _) _⟩
  by_cases g2 : n < 16384
  · have hv : vlen n = 2 := by unfold vlen; omega
    have HV := Lib.hid hv
    have h0 : 64 ≤ n := by omega
    have HB := Lib.hid (or64 (n / 256) (by omega) (by omega))
    clear hv g0 g1
    have cv := conv2
    go_enter Try.func81, Try.ntmps81
    go_wp2_with (go_at_call 93; refine (size_any _ _).mono ?_; rw [HV.out]; rintro e w' ⟨rfl, rfl⟩)
    go_ret
    exact ⟨ret_str (str_of (by rw [encN_2 HV.out, HB.out])), (Below.refl _ _).alloc (Nat.le_refl _) _⟩
  · have hv : vlen n = 4 := by unfold vlen; omega
    have HV := Lib.hid hv
    have h0 : 16384 ≤ n := by omega
    have h1 : n ≤ 1073741823 := by omega
    clear hv g0 g1 g2
    have cv := conv4
    go_enter Try.func81, Try.ntmps81
    go_wp2_with (go_at_call 93; refine (size_any _ _).mono ?_; rw [HV.out]; rintro e w' ⟨rfl, rfl⟩)
    go_ret
    exact ⟨ret_str (str_of (encN_4 HV.out).symm), (Below.refl _ _).alloc (Nat.le_refl _) _⟩
theorem or_i64_nat (a b : Nat) (ha : a < 9223372036854775808) (hb : b < 9223372036854775808) : bits .or .i64 (a : Int) (b : Int) = ((a ||| b : Nat) : Int) := by
  have hx : a ||| b < 2 ^ 63 := Nat.or_lt_two_pow (by omega) (by omega)
  have h1 : (BitVec.ofInt 64 (a : Int)).toNat = a := by
    rw [BitVec.ofInt_natCast, BitVec.toNat_ofNat]; exact Nat.mod_eq_of_lt (by omega)
  have h2 : (BitVec.ofInt 64 (b : Int)).toNat = b := by
    rw [BitVec.ofInt_natCast, BitVec.toNat_ofNat]; exact Nat.mod_eq_of_lt (by omega)
  show IntKind.i64.wrap ((BitVec.ofInt 64 (a : Int) ||| BitVec.ofInt 64 (b : Int)).toNat : Int) = _
  rw [BitVec.toNat_or, h1, h2, IntKind.wrap_i64]
  omega
theorem shl_or (a b : Int) (h0 : 0 ≤ a) (h1 : a < 1099511627776) (h2 : 0 ≤ b) (h3 : b < 256) : bits .or .i64 (a * 256) b = a * 256 + b := by
  obtain ⟨m, rfl⟩ := Int.eq_ofNat_of_zero_le h0
  obtain ⟨k, rfl⟩ := Int.eq_ofNat_of_zero_le h2
  have e : ((m : Int) * 256) = ((m * 256 : Nat) : Int) := by omega
  rw [e, or_i64_nat _ _ (by omega) (by omega), nat_join 8 (m * 256) k (by omega) (by omega)]
  omega
theorem four (a b c d : Int) (a0 : 0 ≤ a) (a1 : a < 256) (b0 : 0 ≤ b) (b1 : b < 256) (c0 : 0 ≤ c) (c1 : c < 256) (d0 : 0 ≤ d) (d1 : d < 256) :
    bits BinOp.or IntKind.i64 (wrap64 (bits BinOp.or IntKind.i64 (wrap64 (bits BinOp.or IntKind.i64 (a % 64 * 256) (wrap64 b) * 256)) (wrap64 c) * 256)) (wrap64 d) = ((a % 64 * 256 + b) * 256 + c) * 256 + d := by
  have k1 := shl_or (a % 64) b (by omega) (by omega) b0 b1
  have k2 := shl_or (a % 64 * 256 + b) c (by omega) (by omega) c0 c1
  have k3 := shl_or ((a % 64 * 256 + b) * 256 + c) d (by omega) (by omega) d0 d1
  rw [w64 b b0 (by omega), w64 c c0 (by omega), w64 d d0 (by omega), k1, w64 ((a % 64 * 256 + b) * 256) (by omega) (by omega), k2, w64 (((a % 64 * 256 + b) * 256 + c) * 256) (by omega) (by omega), k3]
set_option maxRecDepth 100000 in
set_option maxHeartbeats 1000000 in
theorem rv_1 (s : ByteArray) (w : World) (hs : s.size ≤ maxLen) (h0 : 0 < s.size) (hb : s[0].toNat < 64) : Calls Try.prog 84 #[.string s] w fun e w' => e = .returned (.tuple #[.int .i64 (dval s), .int .i64 (dsz s)]) ∧ w = w' := by
  unfold maxLen at hs
  have he := isEmpty_of_pos (s := s) (by omega)
  have e0 := bt_eq s 0 (by omega)
  have hd : dsz s = 1 := by unfold dsz; rw [if_neg (by omega)]; omega
  have hv : dval s = bt s 0 % 64 := by rw [dval_1 hd]; omega
  have E0 := Lib.hid e0
  have HD := Lib.hid hd
  have HV := Lib.hid hv
  clear hd hv e0
  have hq : s[0].toNat / 64 = 0 := by omega
  have hqi : (s[0].toNat : Int) / 64 = 0 := by omega
  go_enter Try.func84, Try.ntmps84
  go_wp2
  go_rounds 1
  go_ret2
  exact ⟨ret_pair (by rw [HV.out, E0.out]) (HD.out).symm, rfl⟩
set_option maxRecDepth 100000 in
set_option maxHeartbeats 1000000 in
theorem rv_2 (s : ByteArray) (w : World) (hs : s.size ≤ maxLen) (h0 : 2 ≤ s.size) (hb : 64 ≤ s[0].toNat) (hb2 : s[0].toNat < 128) : Calls Try.prog 84 #[.string s] w fun e w' => e = .returned (.tuple #[.int .i64 (dval s), .int .i64 (dsz s)]) ∧ w = w' := by
  unfold maxLen at hs
  have he := isEmpty_of_pos (s := s) (by omega)
  have e0 := bt_eq s 0 (by omega)
  have e1 := bt_eq s 1 (by omega)
  have hd : dsz s = 2 := by unfold dsz; rw [if_neg (by omega)]; omega
  have hv : dval s = bt s 0 % 64 * 256 + bt s 1 := by rw [dval_2 hd]; omega
  have E0 := Lib.hid e0
  have E1 := Lib.hid e1
  have HD := Lib.hid hd
  have HV := Lib.hid hv
  clear hd hv e0 e1
  have hq : s[0].toNat / 64 = 1 := by omega
  have hqi : (s[0].toNat : Int) / 64 = 1 := by omega
  go_enter Try.func84, Try.ntmps84
  go_wp2
  go_rounds 2
  go_ret2
  exact ⟨ret_pair (by rw [HV.out, E0.out, E1.out, w64 _ (bt_lo s 1) (by have := bt_hi s 1; omega), shl_or _ _ (by have := bt_lo s 0; omega) (by omega) (bt_lo s 1) (bt_hi s 1)]) (HD.out).symm, rfl⟩
set_option maxRecDepth 100000 in
set_option maxHeartbeats 1000000 in
theorem rv_4 (s : ByteArray) (w : World) (hs : s.size ≤ maxLen) (h0 : 4 ≤ s.size) (hb : 128 ≤ s[0].toNat) (hb2 : s[0].toNat < 192) : Calls Try.prog 84 #[.string s] w fun e w' => e = .returned (.tuple #[.int .i64 (dval s), .int .i64 (dsz s)]) ∧ w = w' := by
  unfold maxLen at hs
  have he := isEmpty_of_pos (s := s) (by omega)
  have e0 := bt_eq s 0 (by omega)
  have e1 := bt_eq s 1 (by omega)
  have e2 := bt_eq s 2 (by omega)
  have e3 := bt_eq s 3 (by omega)
  have hd : dsz s = 4 := by unfold dsz; rw [if_neg (by omega)]; omega
  have hv : dval s = ((bt s 0 % 64 * 256 + bt s 1) * 256 + bt s 2) * 256 + bt s 3 := by rw [dval_4 hd]; omega
  have E0 := Lib.hid e0
  have E1 := Lib.hid e1
  have E2 := Lib.hid e2
  have E3 := Lib.hid e3
  have HD := Lib.hid hd
  have HV := Lib.hid hv
  clear hd hv e0 e1 e2 e3
  have hq : s[0].toNat / 64 = 2 := by omega
  have hqi : (s[0].toNat : Int) / 64 = 2 := by omega
  go_enter Try.func84, Try.ntmps84
  go_wp2
  go_rounds 4
  go_ret2
  exact ⟨ret_pair (by rw [HV.out, E0.out, E1.out, E2.out, E3.out]; exact four _ _ _ _ (bt_lo s 0) (bt_hi s 0) (bt_lo s 1) (bt_hi s 1) (bt_lo s 2) (bt_hi s 2) (bt_lo s 3) (bt_hi s 3)) (HD.out).symm, rfl⟩
set_option maxRecDepth 100000 in
set_option maxHeartbeats 1000000 in
theorem rv_short (s : ByteArray) (w : World) (hs : s.size ≤ maxLen) (h0 : 0 < s.size) (hb : (64 ≤ s[0].toNat ∧ s[0].toNat < 128 ∧ s.size < 2) ∨ (128 ≤ s[0].toNat ∧ s[0].toNat < 192 ∧ s.size < 4) ∨ 192 ≤ s[0].toNat) : Calls Try.prog 84 #[.string s] w fun e w' => e = .returned (.tuple #[.int .i64 (dval s), .int .i64 (dsz s)]) ∧ w = w' := by
  unfold maxLen at hs
  have he := isEmpty_of_pos (s := s) (by omega)
  have e0 := bt_eq s 0 (by omega)
  have hd : dsz s = 0 := by unfold dsz; rw [if_neg (by omega)]; omega
  have HD := Lib.hid hd
  have hx : (s[0].toNat : Int) < 256 := by rw [e0]; exact bt_hi s 0
  clear hd e0
  rcases hb with ⟨hb, hb2, hb3⟩ | ⟨hb, hb2, hb3⟩ | hb
  · have hq : s[0].toNat / 64 = 1 := by omega
    have hqi : (s[0].toNat : Int) / 64 = 1 := by omega
    clear hx
    go_enter Try.func84, Try.ntmps84
    go_wp2
    go_ret2
    exact ⟨ret_pair (dval_0 HD.out).symm (HD.out).symm, rfl⟩
  · have hq : s[0].toNat / 64 = 2 := by omega
    have hqi : (s[0].toNat : Int) / 64 = 2 := by omega
    clear hx
    go_enter Try.func84, Try.ntmps84
    go_wp2
    go_ret2
    exact ⟨ret_pair (dval_0 HD.out).symm (HD.out).symm, rfl⟩
  · have hq : s[0].toNat / 64 = 3 := by omega
    have hqi : (s[0].toNat : Int) / 64 = 3 := by omega
    clear hx
    go_enter Try.func84, Try.ntmps84
    go_wp2
    go_ret2
    exact ⟨ret_pair (dval_0 HD.out).symm (HD.out).symm, rfl⟩
set_option maxRecDepth 100000 in
set_option maxHeartbeats 400000 in
theorem rv_none (s : ByteArray) (w : World) (h0 : s.size = 0) : Calls Try.prog 84 #[.string s] w fun e w' => e = .returned (.tuple #[.int .i64 (dval s), .int .i64 (dsz s)]) ∧ w = w' := by
  have he := isEmpty_of_zero h0
  have hd : dsz s = 0 := by unfold dsz; rw [if_pos h0]
  have HD := Lib.hid hd
  clear hd h0
  go_enter Try.func84, Try.ntmps84
  go_wp2
  go_ret2
  exact ⟨ret_pair (dval_0 HD.out).symm (HD.out).symm, rfl⟩
theorem rv_any (s : ByteArray) (w : World) (hs : s.size ≤ maxLen) : Calls Try.prog 84 #[.string s] w fun e w' => e = .returned (.tuple #[.int .i64 (dval s), .int .i64 (dsz s)]) ∧ w = w' := by
  by_cases h0 : s.size = 0
  · exact rv_none s w h0
  by_cases h1 : s[0].toNat < 64
  · exact rv_1 s w hs (by omega) h1
  by_cases h2 : s[0].toNat < 128
  · by_cases h3 : 2 ≤ s.size
    · exact rv_2 s w hs h3 (by omega) h2
    · exact rv_short s w hs (by omega) (.inl ⟨by omega, h2, by omega⟩)
  by_cases h4 : s[0].toNat < 192
  · by_cases h3 : 4 ≤ s.size
    · exact rv_4 s w hs h3 (by omega) h4
    · exact rv_short s w hs (by omega) (.inr (.inl ⟨by omega, h4, by omega⟩))
  · exact rv_short s w hs (by omega) (.inr (.inr (by omega)))
def dok (s : ByteArray) : Bool := decide (0 < dsz s)
def mini (s : ByteArray) : Bool := decide (0 < dsz s ∧ dsz s = s.size ∧ dsz s = vlen (dval s))
set_option maxRecDepth 100000 in
set_option maxHeartbeats 400000 in
theorem imin_any (s : ByteArray) (w : World) (hs : s.size ≤ maxLen) : Calls Try.prog 85 #[.string s] w fun e w' => e = .returned (.bool (mini s)) ∧ w = w' := by
  by_cases h0 : dsz s = 0
  · have hm : mini s = false := decide_eq_false (by omega)
    have hg : decide (0 < dsz s) = false := decide_eq_false (by omega)
    have HM := Lib.hid hm
    clear hm h0
    go_enter Try.func85, Try.ntmps85
    go_wp2_with (go_at_call 84; refine (rv_any _ _ hs).mono ?_; rintro e w' ⟨rfl, rfl⟩)
    go_ret
    exact ⟨ret_bool HM.out.symm, rfl⟩
  · have hp : 0 < dsz s := by have := dsz_cases s; omega
    by_cases h1 : dsz s = s.size
    · have hg : decide (0 < dsz s) = true := decide_eq_true hp
      have hg2 : (dsz s == (s.size : Int)) = true := by rw [beq_iff_eq]; exact h1
      have hm : mini s = (dsz s == vlen (dval s)) := by unfold mini; rw [Bool.eq_iff_iff, decide_eq_true_eq, beq_iff_eq]; omega
      have HM := Lib.hid hm
      clear hm h0 h1
      go_enter Try.func85, Try.ntmps85
      go_wp2_with (first | (go_at_call 84; refine (rv_any _ _ hs).mono ?_; rintro e w' ⟨rfl, rfl⟩) | (go_at_call 93; refine (size_any _ _).mono ?_; rintro e w' ⟨rfl, rfl⟩))
      go_ret
      exact ⟨ret_bool HM.out.symm, rfl⟩
    · have hg : decide (0 < dsz s) = true := decide_eq_true hp
      have hg2 : (dsz s == (s.size : Int)) = false := by rw [beq_eq_false_iff_ne]; exact h1
      have hm : mini s = false := decide_eq_false (by omega)
      have HM := Lib.hid hm
      clear hm h0 h1
      go_enter Try.func85, Try.ntmps85
      go_wp2_with (go_at_call 84; refine (rv_any _ _ hs).mono ?_; rintro e w' ⟨rfl, rfl⟩)
      go_ret
      exact ⟨ret_bool HM.out.symm, rfl⟩

end Go.Proofs.Ythflokonihegbaa
