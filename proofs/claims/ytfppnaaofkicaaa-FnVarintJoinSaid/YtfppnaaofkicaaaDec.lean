/- Chapter 1: decoding; contracts of readVarint and of the model's l1Decode. -/
import Derived.Test.YtfppnaaofkicaaaEnc
import Derived.Laws.BitsAllLaws
namespace Go.Proofs.Ytfppnaaofkicaaa
open Go.RowKit
set_option linter.unusedVariables false
set_option linter.unusedSimpArgs false

/-- Byte i of s, 0 behind its end. -/
def bt (s : ByteArray) (i : Nat) : Int := ((s.data.toList.getD i 0).toNat : Int)
theorem bt_eq (s : ByteArray) (i : Nat) (h : i < s.size) : (s[i].toNat : Int) = bt s i := by
  unfold bt
  rw [List.getD_eq_getElem?_getD, List.getElem?_eq_getElem (by simpa using h)]
  rfl
theorem bt_lo (s : ByteArray) (i : Nat) : 0 ≤ bt s i := by unfold bt; omega
theorem bt_hi (s : ByteArray) (i : Nat) : bt s i < 256 := by
  unfold bt; have := (s.data.toList.getD i 0).toNat_lt; omega
/-- How many bytes the encoding at the start of s has, 0 if there is none. -/
def dsz (s : ByteArray) : Int :=
  if s.size = 0 then 0 else if bt s 0 < 64 then 1 else if bt s 0 < 128 then (if 2 ≤ s.size then 2 else 0) else if bt s 0 < 192 then (if 4 ≤ s.size then 4 else 0) else 0
/-- The number that is encoded there. -/
def dval (s : ByteArray) : Int :=
  if dsz s = 1 then bt s 0 else if dsz s = 2 then (bt s 0 - 64) * 256 + bt s 1 else if dsz s = 4 then (bt s 0 - 128) * 16777216 + bt s 1 * 65536 + bt s 2 * 256 + bt s 3 else 0
theorem dval_0 {s : ByteArray} (h : dsz s = 0) : dval s = 0 := by unfold dval; rw [h]; rfl
theorem dval_1 {s : ByteArray} (h : dsz s = 1) : dval s = bt s 0 := by unfold dval; rw [h]; rfl
theorem dval_2 {s : ByteArray} (h : dsz s = 2) : dval s = (bt s 0 - 64) * 256 + bt s 1 := by unfold dval; rw [h]; rfl
theorem dval_4 {s : ByteArray} (h : dsz s = 4) : dval s = (bt s 0 - 128) * 16777216 + bt s 1 * 65536 + bt s 2 * 256 + bt s 3 := by unfold dval; rw [h]; rfl

theorem ret_pair {a b c d : Int} (h : a = c) (k : b = d) : Ending.returned (.tuple #[.int .i64 a, .int .i64 b]) = .returned (.tuple #[.int .i64 c, .int .i64 d]) := by rw [h, k]

theorem or_i64_nat (a b : Nat) (ha : a < 9223372036854775808) (hb : b < 9223372036854775808) : bits .or .i64 (a : Int) (b : Int) = ((a ||| b : Nat) : Int) := by
  have hx : a ||| b < 2 ^ 63 := Nat.or_lt_two_pow (by omega) (by omega)
  have h1 : (BitVec.ofInt 64 (a : Int)).toNat = a := by
    rw [BitVec.ofInt_natCast, BitVec.toNat_ofNat]; exact Nat.mod_eq_of_lt (by omega)
  have h2 : (BitVec.ofInt 64 (b : Int)).toNat = b := by
    rw [BitVec.ofInt_natCast, BitVec.toNat_ofNat]; exact Nat.mod_eq_of_lt (by omega)
  show IntKind.i64.wrap ((BitVec.ofInt 64 (a : Int) ||| BitVec.ofInt 64 (b : Int)).toNat : Int) = _
  rw [BitVec.toNat_or, h1, h2, IntKind.wrap_i64]
  omega
theorem shl_or (a b : Int) (h0 : 0 ≤ a) (h1 : a < 1099511627776) (h2 : 0 ≤ b) (h3 : b < 256) : bits .or .i64 (a * 256) b = a * 256 + b := by
  obtain ⟨m, rfl⟩ := Int.eq_ofNat_of_zero_le h0
  obtain ⟨k, rfl⟩ := Int.eq_ofNat_of_zero_le h2
  have e : ((m : Int) * 256) = ((m * 256 : Nat) : Int) := by omega
  rw [e, or_i64_nat _ _ (by omega) (by omega), nat_join 8 (m * 256) k (by omega) (by omega)]
  omega
theorem w64 (n : Int) (h0 : 0 ≤ n) (h1 : n < 1099511627776) : wrap64 n = n := by unfold wrap64; omega

theorem isEmpty_of_pos {s : ByteArray} (h : 0 < s.size) : s.toList.isEmpty = false := by
  have e : s.toList = s.data.toList := _root_.Go.ByteArray.toList_eq s
  rw [e]
  cases hd : s.data.toList with
  | nil => exfalso; have : s.data.toList.length = s.size := by simp
           rw [hd] at this; simp at this; omega
  | cons a l => rfl
theorem isEmpty_of_zero {s : ByteArray} (h : s.size = 0) : s.toList.isEmpty = true := by
  have e : s = ByteArray.empty := by
    cases s with | mk d => cases d with | mk l => cases l with | nil => rfl | cons a l => simp [ByteArray.size] at h
  rw [e, _root_.Go.ByteArray.toList_eq]; rfl

theorem two' (a b : Int) (a0 : 0 ≤ a) (a1 : a < 256) (b0 : 0 ≤ b) (b1 : b < 256) : wrap64 (256 * (a % 64) + wrap64 b) = a % 64 * 256 + b := by
  rw [w64 b b0 (by omega), w64 _ (by omega) (by omega)]; omega
theorem four' (a b c d : Int) (a0 : 0 ≤ a) (a1 : a < 256) (b0 : 0 ≤ b) (b1 : b < 256) (c0 : 0 ≤ c) (c1 : c < 256) (d0 : 0 ≤ d) (d1 : d < 256) :
    wrap64 (wrap64 (256 * wrap64 (wrap64 (256 * wrap64 (256 * (a % 64) + wrap64 b)) + wrap64 c)) + wrap64 d) = ((a % 64 * 256 + b) * 256 + c) * 256 + d := by
  rw [two' a b a0 a1 b0 b1, w64 c c0 (by omega), w64 d d0 (by omega), w64 (256 * (a % 64 * 256 + b)) (by omega) (by omega), w64 (256 * (a % 64 * 256 + b) + c) (by omega) (by omega),
    w64 (256 * (256 * (a % 64 * 256 + b) + c)) (by omega) (by omega), w64 (256 * (256 * (a % 64 * 256 + b) + c) + d) (by omega) (by omega)]
  omega
theorem four (a b c d : Int) (a0 : 0 ≤ a) (a1 : a < 256) (b0 : 0 ≤ b) (b1 : b < 256) (c0 : 0 ≤ c) (c1 : c < 256) (d0 : 0 ≤ d) (d1 : d < 256) :
    bits BinOp.or IntKind.i64 (wrap64 (bits BinOp.or IntKind.i64 (wrap64 (bits BinOp.or IntKind.i64 (a % 64 * 256) (wrap64 b) * 256)) (wrap64 c) * 256)) (wrap64 d) = ((a % 64 * 256 + b) * 256 + c) * 256 + d := by
  have k1 := shl_or (a % 64) b (by omega) (by omega) b0 b1
  have k2 := shl_or (a % 64 * 256 + b) c (by omega) (by omega) c0 c1
  have k3 := shl_or ((a % 64 * 256 + b) * 256 + c) d (by omega) (by omega) d0 d1
  rw [w64 b b0 (by omega), w64 c c0 (by omega), w64 d d0 (by omega), k1, w64 ((a % 64 * 256 + b) * 256) (by omega) (by omega), k2, w64 (((a % 64 * 256 + b) * 256 + c) * 256) (by omega) (by omega), k3]

set_option maxHeartbeats 1000000 in
theorem rv_1 (s : ByteArray) (w : World) (hs : s.size ≤ maxLen) (h0 : 0 < s.size) (hb : s[0].toNat < 64) : Calls Try.prog 36 #[.string s] w fun e w' => e = .returned (.tuple #[.int .i64 (dval s), .int .i64 (dsz s)]) ∧ w = w' := by
  unfold maxLen at hs
  have he := isEmpty_of_pos (s := s) (by omega)
  have e0 := bt_eq s 0 (by omega)
  have hd : dsz s = 1 := by unfold dsz; rw [if_neg (by omega)]; omega
  have hv : dval s = bt s 0 % 64 := by rw [dval_1 hd]; omega
  have E0 := Lib.hid e0
  have HD := Lib.hid hd
  have HV := Lib.hid hv
  clear hd hv e0
  have hq : s[0].toNat / 64 = 0 := by omega
  have hqi : (s[0].toNat : Int) / 64 = 0 := by omega
  go_enter Try.func36, Try.ntmps36
  go_wp2
  go_rounds 1
  go_ret2
  exact ⟨ret_pair (by rw [HV.out, E0.out]) (HD.out).symm, rfl⟩
set_option maxHeartbeats 1000000 in
theorem rv_2 (s : ByteArray) (w : World) (hs : s.size ≤ maxLen) (h0 : 2 ≤ s.size) (hb : 64 ≤ s[0].toNat) (hb2 : s[0].toNat < 128) : Calls Try.prog 36 #[.string s] w fun e w' => e = .returned (.tuple #[.int .i64 (dval s), .int .i64 (dsz s)]) ∧ w = w' := by
  unfold maxLen at hs
  have he := isEmpty_of_pos (s := s) (by omega)
  have e0 := bt_eq s 0 (by omega)
  have e1 := bt_eq s 1 (by omega)
  have hd : dsz s = 2 := by unfold dsz; rw [if_neg (by omega)]; omega
  have hv : dval s = bt s 0 % 64 * 256 + bt s 1 := by rw [dval_2 hd]; omega
  have E0 := Lib.hid e0
  have E1 := Lib.hid e1
  have HD := Lib.hid hd
  have HV := Lib.hid hv
  clear hd hv e0 e1
  have hq : s[0].toNat / 64 = 1 := by omega
  have hqi : (s[0].toNat : Int) / 64 = 1 := by omega
  go_enter Try.func36, Try.ntmps36
  go_wp2
  go_rounds 2
  go_ret2
  exact ⟨ret_pair (by rw [HV.out, E0.out, E1.out, w64 _ (bt_lo s 1) (by have := bt_hi s 1; omega), shl_or _ _ (by have := bt_lo s 0; omega) (by omega) (bt_lo s 1) (bt_hi s 1)]) (HD.out).symm, rfl⟩
set_option maxHeartbeats 1000000 in
theorem rv_4 (s : ByteArray) (w : World) (hs : s.size ≤ maxLen) (h0 : 4 ≤ s.size) (hb : 128 ≤ s[0].toNat) (hb2 : s[0].toNat < 192) : Calls Try.prog 36 #[.string s] w fun e w' => e = .returned (.tuple #[.int .i64 (dval s), .int .i64 (dsz s)]) ∧ w = w' := by
  unfold maxLen at hs
  have he := isEmpty_of_pos (s := s) (by omega)
  have e0 := bt_eq s 0 (by omega)
  have e1 := bt_eq s 1 (by omega)
  have e2 := bt_eq s 2 (by omega)
  have e3 := bt_eq s 3 (by omega)
  have hd : dsz s = 4 := by unfold dsz; rw [if_neg (by omega)]; omega
  have hv : dval s = ((bt s 0 % 64 * 256 + bt s 1) * 256 + bt s 2) * 256 + bt s 3 := by rw [dval_4 hd]; omega
  have E0 := Lib.hid e0
  have E1 := Lib.hid e1
  have E2 := Lib.hid e2
  have E3 := Lib.hid e3
  have HD := Lib.hid hd
  have HV := Lib.hid hv
  clear hd hv e0 e1 e2 e3
  have hq : s[0].toNat / 64 = 2 := by omega
  have hqi : (s[0].toNat : Int) / 64 = 2 := by omega
  go_enter Try.func36, Try.ntmps36
  go_wp2
  go_rounds 4
  go_ret2
  exact ⟨ret_pair (by rw [HV.out, E0.out, E1.out, E2.out, E3.out]; exact four _ _ _ _ (bt_lo s 0) (bt_hi s 0) (bt_lo s 1) (bt_hi s 1) (bt_lo s 2) (bt_hi s 2) (bt_lo s 3) (bt_hi s 3)) (HD.out).symm, rfl⟩
set_option maxHeartbeats 1000000 in
theorem rv_short (s : ByteArray) (w : World) (hs : s.size ≤ maxLen) (h0 : 0 < s.size) (hb : (64 ≤ s[0].toNat ∧ s[0].toNat < 128 ∧ s.size < 2) ∨ (128 ≤ s[0].toNat ∧ s[0].toNat < 192 ∧ s.size < 4) ∨ 192 ≤ s[0].toNat) : Calls Try.prog 36 #[.string s] w fun e w' => e = .returned (.tuple #[.int .i64 (dval s), .int .i64 (dsz s)]) ∧ w = w' := by
  unfold maxLen at hs
  have he := isEmpty_of_pos (s := s) (by omega)
  have e0 := bt_eq s 0 (by omega)
  have hd : dsz s = 0 := by unfold dsz; rw [if_neg (by omega)]; omega
  have HD := Lib.hid hd
  have hx : (s[0].toNat : Int) < 256 := by rw [e0]; exact bt_hi s 0
  clear hd e0
  rcases hb with ⟨hb, hb2, hb3⟩ | ⟨hb, hb2, hb3⟩ | hb
  · have hq : s[0].toNat / 64 = 1 := by omega
    have hqi : (s[0].toNat : Int) / 64 = 1 := by omega
    clear hx
    go_enter Try.func36, Try.ntmps36
    go_wp2
    go_ret2
    exact ⟨ret_pair (dval_0 HD.out).symm (HD.out).symm, rfl⟩
  · have hq : s[0].toNat / 64 = 2 := by omega
    have hqi : (s[0].toNat : Int) / 64 = 2 := by omega
    clear hx
    go_enter Try.func36, Try.ntmps36
    go_wp2
    go_ret2
    exact ⟨ret_pair (dval_0 HD.out).symm (HD.out).symm, rfl⟩
  · have hq : s[0].toNat / 64 = 3 := by omega
    have hqi : (s[0].toNat : Int) / 64 = 3 := by omega
    clear hx
    go_enter Try.func36, Try.ntmps36
    go_wp2
    go_ret2
    exact ⟨ret_pair (dval_0 HD.out).symm (HD.out).symm, rfl⟩
set_option maxHeartbeats 400000 in
theorem rv_none (s : ByteArray) (w : World) (h0 : s.size = 0) : Calls Try.prog 36 #[.string s] w fun e w' => e = .returned (.tuple #[.int .i64 (dval s), .int .i64 (dsz s)]) ∧ w = w' := by
  have he := isEmpty_of_zero h0
  have hd : dsz s = 0 := by unfold dsz; rw [if_pos h0]
  have HD := Lib.hid hd
  clear hd h0
  go_enter Try.func36, Try.ntmps36
  go_wp2
  go_ret2
  exact ⟨ret_pair (dval_0 HD.out).symm (HD.out).symm, rfl⟩
theorem rv_any (s : ByteArray) (w : World) (hs : s.size ≤ maxLen) : Calls Try.prog 36 #[.string s] w fun e w' => e = .returned (.tuple #[.int .i64 (dval s), .int .i64 (dsz s)]) ∧ w = w' := by
  by_cases h0 : s.size = 0
  · exact rv_none s w h0
  by_cases h1 : s[0].toNat < 64
  · exact rv_1 s w hs (by omega) h1
  by_cases h2 : s[0].toNat < 128
  · by_cases h3 : 2 ≤ s.size
    · exact rv_2 s w hs h3 (by omega) h2
    · exact rv_short s w hs (by omega) (.inl ⟨by omega, h2, by omega⟩)
  by_cases h4 : s[0].toNat < 192
  · by_cases h3 : 4 ≤ s.size
    · exact rv_4 s w hs h3 (by omega) h4
    · exact rv_short s w hs (by omega) (.inr (.inl ⟨by omega, h4, by omega⟩))
  · exact rv_short s w hs (by omega) (.inr (.inr (by omega)))
set_option maxRecDepth 100000 in
set_option maxHeartbeats 1000000 in
theorem l1d_1 (s : ByteArray) (w : World) (hs : s.size ≤ maxLen) (h0 : 0 < s.size) (hb : s[0].toNat < 64) : Calls Try.prog 39 #[.string s] w fun e w' => e = .returned (.tuple #[.int .i64 (dval s), .int .i64 (dsz s)]) ∧ Below w.heap.size w w' := by
  unfold maxLen at hs
  have he := isEmpty_of_pos (s := s) (by omega)
  have e0 := bt_eq s 0 (by omega)
  have hd : dsz s = 1 := by unfold dsz; rw [if_neg (by omega)]; omega
  have hv : dval s = bt s 0 % 64 := by rw [dval_1 hd]; omega
  have E0 := Lib.hid e0
  have HD := Lib.hid hd
  have HV := Lib.hid hv
  clear hd hv e0
  have hq : s[0].toNat / 64 = 0 := by omega
  have hqi : (s[0].toNat : Int) / 64 = 0 := by omega
  go_enter Try.func39, Try.ntmps39
  go_wp2
  go_rounds 1
  go_ret2
  exact ⟨ret_pair (by rw [HV.out, E0.out]) (HD.out).symm, by first | exact Below.refl _ _ | exact (Below.refl _ _).alloc (Nat.le_refl _) _⟩
set_option maxRecDepth 100000 in
set_option maxHeartbeats 1000000 in
theorem l1d_2 (s : ByteArray) (w : World) (hs : s.size ≤ maxLen) (h0 : 2 ≤ s.size) (hb : 64 ≤ s[0].toNat) (hb2 : s[0].toNat < 128) : Calls Try.prog 39 #[.string s] w fun e w' => e = .returned (.tuple #[.int .i64 (dval s), .int .i64 (dsz s)]) ∧ Below w.heap.size w w' := by
  unfold maxLen at hs
  have he := isEmpty_of_pos (s := s) (by omega)
  have e0 := bt_eq s 0 (by omega)
  have e1 := bt_eq s 1 (by omega)
  have hd : dsz s = 2 := by unfold dsz; rw [if_neg (by omega)]; omega
  have hv : dval s = bt s 0 % 64 * 256 + bt s 1 := by rw [dval_2 hd]; omega
  have E0 := Lib.hid e0
  have E1 := Lib.hid e1
  have HD := Lib.hid hd
  have HV := Lib.hid hv
  clear hd hv e0 e1
  have hq : s[0].toNat / 64 = 1 := by omega
  have hqi : (s[0].toNat : Int) / 64 = 1 := by omega
  go_enter Try.func39, Try.ntmps39
  go_wp2
  go_rounds 2
  go_ret2
  exact ⟨ret_pair (by rw [HV.out]; simp only [E0.out, E1.out]; exact two' _ _ (bt_lo s 0) (bt_hi s 0) (bt_lo s 1) (bt_hi s 1)) (HD.out).symm, by first | exact Below.refl _ _ | exact (Below.refl _ _).alloc (Nat.le_refl _) _⟩
set_option maxRecDepth 100000 in
set_option maxHeartbeats 1000000 in
theorem l1d_4 (s : ByteArray) (w : World) (hs : s.size ≤ maxLen) (h0 : 4 ≤ s.size) (hb : 128 ≤ s[0].toNat) (hb2 : s[0].toNat < 192) : Calls Try.prog 39 #[.string s] w fun e w' => e = .returned (.tuple #[.int .i64 (dval s), .int .i64 (dsz s)]) ∧ Below w.heap.size w w' := by
  unfold maxLen at hs
  have he := isEmpty_of_pos (s := s) (by omega)
  have e0 := bt_eq s 0 (by omega)
  have e1 := bt_eq s 1 (by omega)
  have e2 := bt_eq s 2 (by omega)
  have e3 := bt_eq s 3 (by omega)
  have hd : dsz s = 4 := by unfold dsz; rw [if_neg (by omega)]; omega
  have hv : dval s = ((bt s 0 % 64 * 256 + bt s 1) * 256 + bt s 2) * 256 + bt s 3 := by rw [dval_4 hd]; omega
  have E0 := Lib.hid e0
  have E1 := Lib.hid e1
  have E2 := Lib.hid e2
  have E3 := Lib.hid e3
  have HD := Lib.hid hd
  have HV := Lib.hid hv
  clear hd hv e0 e1 e2 e3
  have hq : s[0].toNat / 64 = 2 := by omega
  have hqi : (s[0].toNat : Int) / 64 = 2 := by omega
  go_enter Try.func39, Try.ntmps39
  go_wp2
  go_rounds 4
  go_ret2
  exact ⟨ret_pair (by rw [HV.out]; simp only [E0.out, E1.out, E2.out, E3.out]; exact four' _ _ _ _ (bt_lo s 0) (bt_hi s 0) (bt_lo s 1) (bt_hi s 1) (bt_lo s 2) (bt_hi s 2) (bt_lo s 3) (bt_hi s 3)) (HD.out).symm, by first | exact Below.refl _ _ | exact (Below.refl _ _).alloc (Nat.le_refl _) _⟩
set_option maxRecDepth 100000 in
set_option maxHeartbeats 1000000 in
theorem l1d_short (s : ByteArray) (w : World) (hs : s.size ≤ maxLen) (h0 : 0 < s.size) (hb : (64 ≤ s[0].toNat ∧ s[0].toNat < 128 ∧ s.size < 2) ∨ (128 ≤ s[0].toNat ∧ s[0].toNat < 192 ∧ s.size < 4) ∨ 192 ≤ s[0].toNat) : Calls Try.prog 39 #[.string s] w fun e w' => e = .returned (.tuple #[.int .i64 (dval s), .int .i64 (dsz s)]) ∧ Below w.heap.size w w' := by
  unfold maxLen at hs
  have he := isEmpty_of_pos (s := s) (by omega)
  have e0 := bt_eq s 0 (by omega)
  have hd : dsz s = 0 := by unfold dsz; rw [if_neg (by omega)]; omega
  have HD := Lib.hid hd
  have hx : (s[0].toNat : Int) < 256 := by rw [e0]; exact bt_hi s 0
  clear hd e0
  rcases hb with ⟨hb, hb2, hb3⟩ | ⟨hb, hb2, hb3⟩ | hb
  · have hq : s[0].toNat / 64 = 1 := by omega
    have hqi : (s[0].toNat : Int) / 64 = 1 := by omega
    clear hx
    go_enter Try.func39, Try.ntmps39
    go_wp2
    go_ret2
    exact ⟨ret_pair (dval_0 HD.out).symm (HD.out).symm, by first | exact Below.refl _ _ | exact (Below.refl _ _).alloc (Nat.le_refl _) _⟩
  · have hq : s[0].toNat / 64 = 2 := by omega
    have hqi : (s[0].toNat : Int) / 64 = 2 := by omega
    clear hx
    go_enter Try.func39, Try.ntmps39
    go_wp2
    go_ret2
    exact ⟨ret_pair (dval_0 HD.out).symm (HD.out).symm, by first | exact Below.refl _ _ | exact (Below.refl _ _).alloc (Nat.le_refl _) _⟩
  · have hq : s[0].toNat / 64 = 3 := by omega
    have hqi : (s[0].toNat : Int) / 64 = 3 := by omega
    clear hx
    go_enter Try.func39, Try.ntmps39
    go_wp2
    go_ret2
    exact ⟨ret_pair (dval_0 HD.out).symm (HD.out).symm, by first | exact Below.refl _ _ | exact (Below.refl _ _).alloc (Nat.le_refl _) _⟩
set_option maxRecDepth 100000 in
set_option maxHeartbeats 400000 in
theorem l1d_none (s : ByteArray) (w : World) (h0 : s.size = 0) : Calls Try.prog 39 #[.string s] w fun e w' => e = .returned (.tuple #[.int .i64 (dval s), .int .i64 (dsz s)]) ∧ Below w.heap.size w w' := by
  have he := isEmpty_of_zero h0
  have hd : dsz s = 0 := by unfold dsz; rw [if_pos h0]
  have HD := Lib.hid hd
  clear hd h0
  go_enter Try.func39, Try.ntmps39
  go_wp2
  go_ret2
  exact ⟨ret_pair (dval_0 HD.out).symm (HD.out).symm, by first | exact Below.refl _ _ | exact (Below.refl _ _).alloc (Nat.le_refl _) _⟩
theorem l1d_any (s : ByteArray) (w : World) (hs : s.size ≤ maxLen) : Calls Try.prog 39 #[.string s] w fun e w' => e = .returned (.tuple #[.int .i64 (dval s), .int .i64 (dsz s)]) ∧ Below w.heap.size w w' := by
  by_cases h0 : s.size = 0
  · exact l1d_none s w h0
  by_cases h1 : s[0].toNat < 64
  · exact l1d_1 s w hs (by omega) h1
  by_cases h2 : s[0].toNat < 128
  · by_cases h3 : 2 ≤ s.size
    · exact l1d_2 s w hs h3 (by omega) h2
    · exact l1d_short s w hs (by omega) (.inl ⟨by omega, h2, by omega⟩)
  by_cases h4 : s[0].toNat < 192
  · by_cases h3 : 4 ≤ s.size
    · exact l1d_4 s w hs h3 (by omega) h4
    · exact l1d_short s w hs (by omega) (.inr (.inl ⟨by omega, h4, by omega⟩))
  · exact l1d_short s w hs (by omega) (.inr (.inr (by omega)))
end Go.Proofs.Ytfppnaaofkicaaa
