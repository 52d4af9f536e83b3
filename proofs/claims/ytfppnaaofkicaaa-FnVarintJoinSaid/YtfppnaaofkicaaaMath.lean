/- Chapter 1: encoding and decoding undo each other (plain numbers and bytes). -/
import Derived.Test.YtfppnaaofkicaaaDec
namespace Go.Proofs.Ytfppnaaofkicaaa
open Go.RowKit
set_option linter.unusedVariables false
set_option linter.unusedSimpArgs false

theorem bt_of_list (s : ByteArray) (i : Nat) : bt s i = ((s.data.toList.getD i 0).toNat : Int) := rfl
theorem bt_nums (xs : List Int) (t : ByteArray) (i : Nat) (x : Int) (h : xs[i]? = some x) (h0 : 0 ≤ x) (h1 : x < 256) : bt (strOfNums xs ++ t) i = x := by
  have hl : i < xs.length := (List.getElem?_eq_some_iff.1 h).1
  have e : (strOfNums xs ++ t).data.toList = (xs.map fun n => UInt8.ofNat n.toNat) ++ t.data.toList := by simp [strOfNums]
  unfold bt
  rw [e, List.getD_eq_getElem?_getD, List.getElem?_append_left (by simpa using hl), List.getElem?_map, h]
  simp only [Option.map_some, Option.getD_some]
  rw [UInt8.toNat_ofNat']
  omega
theorem size_app (a b : ByteArray) : (a ++ b).size = a.size + b.size := by simp
theorem size_nums (xs : List Int) : (strOfNums xs).size = xs.length := strOfNums_size xs
theorem size_of_list (s : ByteArray) : s.data.toList.length = s.size := by simp
theorem ext_bt {s t : ByteArray} (h : s.size = t.size) (k : ∀ i, i < s.size → bt s i = bt t i) : s = t := by
  have hl : s.data.toList = t.data.toList := by
    apply List.ext_getElem
    · rw [size_of_list, size_of_list, h]
    · intro i h1 h2
      have hi : i < s.size := by rw [← size_of_list]; exact h1
      have := k i hi
      unfold bt at this
      rw [List.getD_eq_getElem?_getD, List.getD_eq_getElem?_getD, List.getElem?_eq_getElem h1, List.getElem?_eq_getElem h2] at this
      simp only [Option.getD_some] at this
      exact UInt8.toNat_inj.1 (by omega)
  cases s with | mk a => cases t with | mk b => cases a with | mk l => cases b with | mk m => simp at hl; rw [hl]

theorem vlen_pos {n : Int} (h0 : 0 ≤ n) (h1 : n ≤ 1073741823) : vlen n = 1 ∨ vlen n = 2 ∨ vlen n = 4 := by unfold vlen; omega
theorem vlen_1 {n : Int} (h : vlen n = 1) : 0 ≤ n ∧ n < 64 := by unfold vlen at h; omega
theorem vlen_2 {n : Int} (h : vlen n = 2) : 64 ≤ n ∧ n < 16384 := by unfold vlen at h; omega
theorem vlen_4 {n : Int} (h : vlen n = 4) : 16384 ≤ n ∧ n ≤ 1073741823 := by unfold vlen at h; omega
theorem vlen_0 {n : Int} (h : vlen n = 0) : n < 0 ∨ 1073741823 < n := by unfold vlen at h; omega
theorem vlen_cases (n : Int) : vlen n = 0 ∨ vlen n = 1 ∨ vlen n = 2 ∨ vlen n = 4 := by unfold vlen; omega

theorem encS_size (n : Int) : ((encS n).size : Int) = vlen n := by
  unfold encS
  rw [size_nums]
  rcases vlen_cases n with h | h | h | h
  · rw [encN_0 h, h]; rfl
  · rw [encN_1 h, h]; rfl
  · rw [encN_2 h, h]; rfl
  · rw [encN_4 h, h]; rfl

/-- Decoding what was encoded, whatever follows. -/
theorem dec_enc (n : Int) (t : ByteArray) (h : vlen n ≠ 0) : dsz (encS n ++ t) = vlen n ∧ dval (encS n ++ t) = n := by
  have hz : ((encS n ++ t).size : Int) = vlen n + t.size := by rw [size_app]; have := encS_size n; omega
  rcases vlen_cases n with h0 | h1 | h2 | h4
  · exact absurd h0 h
  · obtain ⟨a, b⟩ := vlen_1 h1
    have b0 : bt (encS n ++ t) 0 = n := by unfold encS; rw [encN_1 h1]; exact bt_nums _ _ _ _ rfl (by omega) (by omega)
    have hd : dsz (encS n ++ t) = 1 := by unfold dsz; rw [if_neg (by omega)]; omega
    exact ⟨by rw [hd, h1], by rw [dval_1 hd, b0]⟩
  · obtain ⟨a, b⟩ := vlen_2 h2
    have b0 : bt (encS n ++ t) 0 = 64 + n / 256 := by unfold encS; rw [encN_2 h2]; exact bt_nums _ _ _ _ rfl (by omega) (by omega)
    have b1 : bt (encS n ++ t) 1 = n % 256 := by unfold encS; rw [encN_2 h2]; exact bt_nums _ _ _ _ rfl (by omega) (by omega)
    have hd : dsz (encS n ++ t) = 2 := by unfold dsz; rw [if_neg (by omega)]; omega
    exact ⟨by rw [hd, h2], by rw [dval_2 hd, b0, b1]; omega⟩
  · obtain ⟨a, b⟩ := vlen_4 h4
    have b0 : bt (encS n ++ t) 0 = 128 + n / 16777216 := by unfold encS; rw [encN_4 h4]; exact bt_nums _ _ _ _ rfl (by omega) (by omega)
    have b1 : bt (encS n ++ t) 1 = n / 65536 % 256 := by unfold encS; rw [encN_4 h4]; exact bt_nums _ _ _ _ rfl (by omega) (by omega)
    have b2 : bt (encS n ++ t) 2 = n / 256 % 256 := by unfold encS; rw [encN_4 h4]; exact bt_nums _ _ _ _ rfl (by omega) (by omega)
    have b3 : bt (encS n ++ t) 3 = n % 256 := by unfold encS; rw [encN_4 h4]; exact bt_nums _ _ _ _ rfl (by omega) (by omega)
    have hd : dsz (encS n ++ t) = 4 := by unfold dsz; rw [if_neg (by omega)]; omega
    exact ⟨by rw [hd, h4], by rw [dval_4 hd, b0, b1, b2, b3]; omega⟩
theorem app_empty (a : ByteArray) : a ++ ByteArray.empty = a := app_nil a
theorem dec_enc' (n : Int) (h : vlen n ≠ 0) : dsz (encS n) = vlen n ∧ dval (encS n) = n := by
  have := dec_enc n ByteArray.empty h
  rwa [app_empty] at this

theorem dsz_cases (s : ByteArray) : dsz s = 0 ∨ dsz s = 1 ∨ dsz s = 2 ∨ dsz s = 4 := by unfold dsz; split <;> omega
theorem dsz_le (s : ByteArray) : dsz s ≤ s.size := by unfold dsz; split <;> omega
theorem dsz_1 {s : ByteArray} (h : dsz s = 1) : 0 ≤ bt s 0 ∧ bt s 0 < 64 := by have := bt_lo s 0; unfold dsz at h; split at h <;> omega
theorem dsz_2 {s : ByteArray} (h : dsz s = 2) : 64 ≤ bt s 0 ∧ bt s 0 < 128 := by have := bt_lo s 0; unfold dsz at h; split at h <;> omega
theorem dsz_4 {s : ByteArray} (h : dsz s = 4) : 128 ≤ bt s 0 ∧ bt s 0 < 192 := by have := bt_lo s 0; unfold dsz at h; split at h <;> omega

/-- What was decoded can be encoded, in at most as many bytes. -/
theorem dval_range (s : ByteArray) : 0 ≤ dval s ∧ dval s ≤ 1073741823 := by
  have a := bt_lo s 1; have b := bt_hi s 1; have c := bt_lo s 2; have d := bt_hi s 2; have e := bt_lo s 3; have f := bt_hi s 3
  rcases dsz_cases s with h | h | h | h
  · rw [dval_0 h]; omega
  · have := dsz_1 h; rw [dval_1 h]; omega
  · have := dsz_2 h; rw [dval_2 h]; omega
  · have := dsz_4 h; rw [dval_4 h]; omega
theorem vlen_dval_le (s : ByteArray) (h0 : 0 < dsz s) : vlen (dval s) ≤ dsz s ∧ 0 < vlen (dval s) := by
  have a := bt_lo s 1; have b := bt_hi s 1; have c := bt_lo s 2; have d := bt_hi s 2; have e := bt_lo s 3; have f := bt_hi s 3
  rcases dsz_cases s with h | h | h | h
  · omega
  · have := dsz_1 h; have hv := dval_1 h; unfold vlen; omega
  · have := dsz_2 h; have hv := dval_2 h; unfold vlen; omega
  · have := dsz_4 h; have hv := dval_4 h; unfold vlen; omega

/-- Exactly the shortest encodings are what encoding again gives. -/
theorem enc_dec_iff (s : ByteArray) (h0 : 0 < dsz s) : encS (dval s) = s ↔ dsz s = s.size ∧ dsz s = vlen (dval s) := by
  have hp := vlen_dval_le s h0
  constructor
  · intro h
    have k := dec_enc' (dval s) (by omega)
    have z := encS_size (dval s)
    rw [h] at k z
    exact ⟨by omega, k.1⟩
  · rintro ⟨h1, h2⟩
    have z := encS_size (dval s)
    refine ext_bt (by omega) fun i hi => ?_
    have hi' : (i : Int) < dsz s := by omega
    have a := bt_lo s 1; have b := bt_hi s 1; have c := bt_lo s 2; have d := bt_hi s 2; have e := bt_lo s 3; have f := bt_hi s 3
    rw [← app_empty (encS (dval s))]
    rcases dsz_cases s with h | h | h | h
    · omega
    · have hb := dsz_1 h; have hv := dval_1 h
      obtain rfl : i = 0 := by omega
      unfold encS; rw [encN_1 (by omega), hv]
      exact bt_nums _ _ _ _ rfl (by omega) (by omega)
    · have hb := dsz_2 h; have hv := dval_2 h
      unfold encS; rw [encN_2 (by omega)]
      obtain rfl | rfl : i = 0 ∨ i = 1 := by omega
      · rw [bt_nums _ _ _ _ rfl (by omega) (by omega)]; omega
      · rw [bt_nums _ _ _ _ rfl (by omega) (by omega)]; omega
    · have hb := dsz_4 h; have hv := dval_4 h
      unfold encS; rw [encN_4 (by omega)]
      obtain rfl | rfl | rfl | rfl : i = 0 ∨ i = 1 ∨ i = 2 ∨ i = 3 := by omega
      all_goals (rw [bt_nums _ _ _ _ rfl (by omega) (by omega)]; omega)

end Go.Proofs.Ytfppnaaofkicaaa
