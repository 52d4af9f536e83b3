/- The laws VarintHigh and VarintConcat: the walks. -/
import Derived.Test.YtfppnaaofkicaabArg
import Derived.Test.YtfppnaaofkicaabSplit
namespace Go.Proofs.Ytfppnaaofkicaab
open Go.RowKit
set_option linter.unusedVariables false
set_option linter.unusedSimpArgs false

theorem high_none (x : Int) (t : ByteArray) (h0 : 192 ≤ x) (h1 : x < 256) : dsz (strOfNums [x] ++ t) = 0 := by
  have b0 : bt (strOfNums [x] ++ t) 0 = x := bt_nums _ _ _ _ rfl (by omega) (by omega)
  have z : (strOfNums [x] ++ t).size = 1 + t.size := by rw [size_app, size_nums]; rfl
  unfold dsz; rw [if_neg (by omega)]; omega
theorem low_one (x : Int) (t : ByteArray) (h0 : 0 ≤ x) (h1 : x < 64) : dsz (strOfNums [x] ++ t) = 1 ∧ dval (strOfNums [x] ++ t) = x := by
  have b0 : bt (strOfNums [x] ++ t) 0 = x := bt_nums _ _ _ _ rfl (by omega) (by omega)
  have z : (strOfNums [x] ++ t).size = 1 + t.size := by rw [size_app, size_nums]; rfl
  have hd : dsz (strOfNums [x] ++ t) = 1 := by unfold dsz; rw [if_neg (by omega)]; omega
  exact ⟨hd, by rw [dval_1 hd, b0]⟩
theorem splF_bad (s : ByteArray) (h : dsz s = 0) (hp : s.size ≠ 0) : (splF s).isSome = false := by
  unfold splF; rw [spl, if_neg hp, if_pos (.inl h)]; rfl

set_option maxHeartbeats 1000000 in
theorem high_walk (a : Option Addr) (len cap : Nat) (zs : List Int) (a1 : Option Addr) (len1 cap1 : Nat) (zs1 : List Int) (w : World) (h : IsRow .u8 w a len cap zs) (h1 : IsRow .u8 w a1 len1 cap1 zs1) :
    Calls Try.prog 4 #[.slice a len cap, .slice a1 len1 cap1] w fun e w' => e = .returned (.bool true) ∧ Below w.heap.size w w' := by
  obtain ⟨t, ht, hcv⟩ := conv_arg_any h1
  have HC := Lib.hid hcv
  clear h h1 hcv
  by_cases hl : 1048576 < len
  · clear ht
    go_enter Try.func4, Try.ntmps4
    go_wp2
    go_ret
    exact ⟨rfl, Below.refl _ _⟩
  by_cases hl1 : 1048576 < len1
  · clear ht
    go_enter Try.func4, Try.ntmps4
    go_wp2
    go_ret
    exact ⟨rfl, Below.refl _ _⟩
  have ht' : t.size ≤ 1048576 := by omega
  clear ht
  have cv := conv1
  have hx0 : 192 ≤ 192 + (len : Int) % 64 := by omega
  have hx1 : 192 + (len : Int) % 64 < 256 := by omega
  have hy0 : 0 ≤ 192 + (len : Int) % 64 - 192 := by omega
  have hy1 : 192 + (len : Int) % 64 - 192 < 64 := by omega
  have d1 := high_none _ t hx0 hx1
  obtain ⟨d2, d3⟩ := low_one _ t hy0 hy1
  have z1 : (strOfNums [192 + (len : Int) % 64] ++ t).size = 1 + t.size := by rw [size_app, size_nums]; rfl
  have z2 : (strOfNums [192 + (len : Int) % 64 - 192] ++ t).size = 1 + t.size := by rw [size_app, size_nums]; rfl
  have HS1 := Lib.hid (show (strOfNums [192 + (len : Int) % 64] ++ t).size ≤ maxLen by unfold maxLen; omega)
  have HS2 := Lib.hid (show (strOfNums [192 + (len : Int) % 64 - 192] ++ t).size ≤ maxLen by unfold maxLen; omega)
  have k1 : dok (strOfNums [192 + (len : Int) % 64] ++ t) = false := decide_eq_false (by omega)
  have k2 : (dsz (strOfNums [192 + (len : Int) % 64] ++ t) == 0) = true := by rw [beq_iff_eq]; exact d1
  have k3 := splF_bad _ d1 (by omega)
  have k4 : mini (strOfNums [192 + (len : Int) % 64] ++ t) = false := decide_eq_false (by omega)
  have k5 : dok (strOfNums [192 + (len : Int) % 64 - 192] ++ t) = true := decide_eq_true (by omega)
  have k6 : (dsz (strOfNums [192 + (len : Int) % 64 - 192] ++ t) == 1) = true := by rw [beq_iff_eq]; exact d2
  have k7 : (dval (strOfNums [192 + (len : Int) % 64 - 192] ++ t) == 192 + (len : Int) % 64 - 192) = true := by rw [beq_iff_eq]; exact d3
  clear hx0 hx1 hy0 hy1 d1 d2 d3 z1 z2
  have cv2 := HC.out (w.alloc (.cells #[.int .u8 (192 + (len : Int) % 64)] 5)) ((Below.refl _ _).alloc (Nat.le_refl _) _)
  have s1 : (strOfNums [192 + (len : Int) % 64]).size = 1 := by rw [size_nums]; rfl
  have s2 : (strOfNums [192 + (len : Int) % 64 - 192]).size = 1 := by rw [size_nums]; rfl
  go_enter Try.func4, Try.ntmps4
  go_wp2_with fail
  refine (idec_any _ _ HS1.out).mono ?_
  rintro e w1 ⟨rfl, rfl⟩
  go_wp2_with fail
  refine (isplit_any _ _ HS1.out).mono ?_
  rintro e w1 ⟨v, rfl, hb, hown, _⟩
  have hb1 : Below w.heap.size w w1 := ((Below.refl _ _).alloc (Nat.le_refl _) _).trans (hb.mono (by simp))
  have HB1 := Lib.hid hb1
  have cv3 := HC.out (w1.alloc (.cells #[.int .u8 (192 + (len : Int) % 64 - 192)] 5)) (HB1.out.alloc HB1.out.size _)
  clear hb hown hb1 cv2
  go_wp2_with fail
  refine (idec_any _ _ HS2.out).mono ?_
  rintro e w2 ⟨rfl, rfl⟩
  go_wp2_with fail
  refine (imin_any _ _ HS1.out).mono ?_
  rintro e w2 ⟨rfl, rfl⟩
  go_wp2_with fail
  go_ret
  exact ⟨ret_bool (by simp), HB1.out.alloc HB1.out.size _⟩

end Go.Proofs.Ytfppnaaofkicaab
