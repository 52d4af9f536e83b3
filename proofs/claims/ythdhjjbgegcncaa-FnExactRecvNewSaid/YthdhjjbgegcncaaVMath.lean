/- Chapter 1's plain numbers and bytes, ahead of every walk: lengths, encodings, decodings, lists of encodings. -/
import Derived.Test.YthdhjjbgegcncaaBase
import Derived.Laws.BytesArg
import Derived.Laws.BitsAllLaws
import Derived.Lib.Strings
import Derived.Handy
namespace Go.Proofs.Ythdhjjbgegcncaa
open Go.RowKit
set_option linter.unusedVariables false
set_option linter.unusedSimpArgs false

def vlen (n : Int) : Int := if n < 0 then 0 else if 1073741823 < n then 0 else if n < 64 then 1 else if n < 16384 then 2 else 4
def vin (n : Int) : Bool := decide (0 ≤ n ∧ n ≤ 1073741823)

/-- The numbers of the shortest encoding's bytes. -/
def encN (n : Int) : List Int :=
  if vlen n = 1 then [n] else if vlen n = 2 then [64 + n / 256, n % 256] else if vlen n = 4 then [128 + n / 16777216, n / 65536 % 256, n / 256 % 256, n % 256] else []
theorem encN_0 {n : Int} (h : vlen n = 0) : encN n = [] := by unfold encN; rw [h]; rfl
theorem encN_1 {n : Int} (h : vlen n = 1) : encN n = [n] := by unfold encN; rw [h]; rfl
theorem encN_2 {n : Int} (h : vlen n = 2) : encN n = [64 + n / 256, n % 256] := by unfold encN; rw [h]; rfl
theorem encN_4 {n : Int} (h : vlen n = 4) : encN n = [128 + n / 16777216, n / 65536 % 256, n / 256 % 256, n % 256] := by unfold encN; rw [h]; rfl
def encS (n : Int) : ByteArray := strOfNums (encN n)
theorem ret_str {a b : ByteArray} (h : a = b) : Ending.returned (.string a) = .returned (.string b) := by rw [h]
theorem str_of {a b : List Int} (h : a = b) : strOfNums a = strOfNums b := by rw [h]

theorem app_nil (a : ByteArray) : a ++ ⟨#[]⟩ = a := by
  cases a; simp [ByteArray.ext_iff]
theorem app_nums (a b : List Int) : strOfNums a ++ strOfNums b = strOfNums (a ++ b) := by
  simp [ByteArray.ext_iff, strOfNums]
/-- Byte i of s, 0 behind its end. -/
def bt (s : ByteArray) (i : Nat) : Int := ((s.data.toList.getD i 0).toNat : Int)
theorem bt_eq (s : ByteArray) (i : Nat) (h : i < s.size) : (s[i].toNat : Int) = bt s i := by
  unfold bt
  rw [List.getD_eq_getElem?_getD, List.getElem?_eq_getElem (by simpa using h)]
  rfl
theorem bt_lo (s : ByteArray) (i : Nat) : 0 ≤ bt s i := by unfold bt; omega
theorem bt_hi (s : ByteArray) (i : Nat) : bt s i < 256 := by
  unfold bt; have := (s.data.toList.getD i 0).toNat_lt; omega
/-- How many bytes the encoding at the start of s has, 0 if there is none. -/
def dsz (s : ByteArray) : Int :=
  if s.size = 0 then 0 else if bt s 0 < 64 then 1 else if bt s 0 < 128 then (if 2 ≤ s.size then 2 else 0) else if bt s 0 < 192 then (if 4 ≤ s.size then 4 else 0) else 0
/-- The number that is encoded there. -/
def dval (s : ByteArray) : Int :=
  if dsz s = 1 then bt s 0 else if dsz s = 2 then (bt s 0 - 64) * 256 + bt s 1 else if dsz s = 4 then (bt s 0 - 128) * 16777216 + bt s 1 * 65536 + bt s 2 * 256 + bt s 3 else 0
theorem dval_0 {s : ByteArray} (h : dsz s = 0) : dval s = 0 := by unfold dval; rw [h]; rfl
theorem dval_1 {s : ByteArray} (h : dsz s = 1) : dval s = bt s 0 := by unfold dval; rw [h]; rfl
theorem dval_2 {s : ByteArray} (h : dsz s = 2) : dval s = (bt s 0 - 64) * 256 + bt s 1 := by unfold dval; rw [h]; rfl
theorem dval_4 {s : ByteArray} (h : dsz s = 4) : dval s = (bt s 0 - 128) * 16777216 + bt s 1 * 65536 + bt s 2 * 256 + bt s 3 := by unfold dval; rw [h]; rfl

theorem w64 (n : Int) (h0 : 0 ≤ n) (h1 : n < 1099511627776) : wrap64 n = n := by unfold wrap64; omega

theorem isEmpty_of_pos {s : ByteArray} (h : 0 < s.size) : s.toList.isEmpty = false := by
  have e : s.toList = s.data.toList := _root_.Go.ByteArray.toList_eq s
  rw [e]
  cases hd : s.data.toList with
  | nil => exfalso; have : s.data.toList.length = s.size := by simp
           rw [hd] at this; simp at this; omega
  | cons a l => rfl
theorem isEmpty_of_zero {s : ByteArray} (h : s.size = 0) : s.toList.isEmpty = true := by
  have e : s = ByteArray.empty := by
    cases s with | mk d => cases d with | mk l => cases l with | nil => rfl | cons a l => simp [ByteArray.size] at h
  rw [e, _root_.Go.ByteArray.toList_eq]; rfl

theorem bt_of_list (s : ByteArray) (i : Nat) : bt s i = ((s.data.toList.getD i 0).toNat : Int) := rfl
theorem bt_nums (xs : List Int) (t : ByteArray) (i : Nat) (x : Int) (h : xs[i]? = some x) (h0 : 0 ≤ x) (h1 : x < 256) : bt (strOfNums xs ++ t) i = x := by
  have hl : i < xs.length := (List.getElem?_eq_some_iff.1 h).1
  have e : (strOfNums xs ++ t).data.toList = (xs.map fun n => UInt8.ofNat n.toNat) ++ t.data.toList := by simp [strOfNums]
  unfold bt
  rw [e, List.getD_eq_getElem?_getD, List.getElem?_append_left (by simpa using hl), List.getElem?_map, h]
  simp only [Option.map_some, Option.getD_some]
  rw [UInt8.toNat_ofNat']
  omega
theorem size_app (a b : ByteArray) : (a ++ b).size = a.size + b.size := by simp
theorem size_nums (xs : List Int) : (strOfNums xs).size = xs.length := strOfNums_size xs
theorem size_of_list (s : ByteArray) : s.data.toList.length = s.size := by simp
theorem ext_bt {s t : ByteArray} (h : s.size = t.size) (k : ∀ i, i < s.size → bt s i = bt t i) : s = t := by
  have hl : s.data.toList = t.data.toList := by
    apply List.ext_getElem
    · rw [size_of_list, size_of_list, h]
    · intro i h1 h2
      have hi : i < s.size := by rw [← size_of_list]; exact h1
      have := k i hi
      unfold bt at this
      rw [List.getD_eq_getElem?_getD, List.getD_eq_getElem?_getD, List.getElem?_eq_getElem h1, List.getElem?_eq_getElem h2] at this
      simp only [Option.getD_some] at this
      exact UInt8.toNat_inj.1 (by omega)
  cases s with | mk a => cases t with | mk b => cases a with | mk l => cases b with | mk m => simp at hl; rw [hl]

theorem vlen_pos {n : Int} (h0 : 0 ≤ n) (h1 : n ≤ 1073741823) : vlen n = 1 ∨ vlen n = 2 ∨ vlen n = 4 := by unfold vlen; omega
theorem vlen_1 {n : Int} (h : vlen n = 1) : 0 ≤ n ∧ n < 64 := by unfold vlen at h; omega
theorem vlen_2 {n : Int} (h : vlen n = 2) : 64 ≤ n ∧ n < 16384 := by unfold vlen at h; omega
theorem vlen_4 {n : Int} (h : vlen n = 4) : 16384 ≤ n ∧ n ≤ 1073741823 := by unfold vlen at h; omega
theorem vlen_0 {n : Int} (h : vlen n = 0) : n < 0 ∨ 1073741823 < n := by unfold vlen at h; omega
theorem vlen_cases (n : Int) : vlen n = 0 ∨ vlen n = 1 ∨ vlen n = 2 ∨ vlen n = 4 := by unfold vlen; omega

theorem encS_size (n : Int) : ((encS n).size : Int) = vlen n := by
  unfold encS
  rw [size_nums]
  rcases vlen_cases n with h | h | h | h
  · rw [encN_0 h, h]; rfl
  · rw [encN_1 h, h]; rfl
  · rw [encN_2 h, h]; rfl
  · rw [encN_4 h, h]; rfl

/-- Decoding what was encoded, whatever follows. -/
theorem dec_enc (n : Int) (t : ByteArray) (h : vlen n ≠ 0) : dsz (encS n ++ t) = vlen n ∧ dval (encS n ++ t) = n := by
  have hz : ((encS n ++ t).size : Int) = vlen n + t.size := by rw [size_app]; have := encS_size n; omega
  rcases vlen_cases n with h0 | h1 | h2 | h4
  · exact absurd h0 h
  · obtain ⟨a, b⟩ := vlen_1 h1
    have b0 : bt (encS n ++ t) 0 = n := by unfold encS; rw [encN_1 h1]; exact bt_nums _ _ _ _ rfl (by omega) (by omega)
    have hd : dsz (encS n ++ t) = 1 := by unfold dsz; rw [if_neg (by omega)]; omega
    exact ⟨by rw [hd, h1], by rw [dval_1 hd, b0]⟩
  · obtain ⟨a, b⟩ := vlen_2 h2
    have b0 : bt (encS n ++ t) 0 = 64 + n / 256 := by unfold encS; rw [encN_2 h2]; exact bt_nums _ _ _ _ rfl (by omega) (by omega)
    have b1 : bt (encS n ++ t) 1 = n % 256 := by unfold encS; rw [encN_2 h2]; exact bt_nums _ _ _ _ rfl (by omega) (by omega)
    have hd : dsz (encS n ++ t) = 2 := by unfold dsz; rw [if_neg (by omega)]; omega
    exact ⟨by rw [hd, h2], by rw [dval_2 hd, b0, b1]; omega⟩
  · obtain ⟨a, b⟩ := vlen_4 h4
    have b0 : bt (encS n ++ t) 0 = 128 + n / 16777216 := by unfold encS; rw [encN_4 h4]; exact bt_nums _ _ _ _ rfl (by omega) (by omega)
    have b1 : bt (encS n ++ t) 1 = n / 65536 % 256 := by unfold encS; rw [encN_4 h4]; exact bt_nums _ _ _ _ rfl (by omega) (by omega)
    have b2 : bt (encS n ++ t) 2 = n / 256 % 256 := by unfold encS; rw [encN_4 h4]; exact bt_nums _ _ _ _ rfl (by omega) (by omega)
    have b3 : bt (encS n ++ t) 3 = n % 256 := by unfold encS; rw [encN_4 h4]; exact bt_nums _ _ _ _ rfl (by omega) (by omega)
    have hd : dsz (encS n ++ t) = 4 := by unfold dsz; rw [if_neg (by omega)]; omega
    exact ⟨by rw [hd, h4], by rw [dval_4 hd, b0, b1, b2, b3]; omega⟩
theorem app_empty (a : ByteArray) : a ++ ByteArray.empty = a := app_nil a
theorem dec_enc' (n : Int) (h : vlen n ≠ 0) : dsz (encS n) = vlen n ∧ dval (encS n) = n := by
  have := dec_enc n ByteArray.empty h
  rwa [app_empty] at this

theorem dsz_cases (s : ByteArray) : dsz s = 0 ∨ dsz s = 1 ∨ dsz s = 2 ∨ dsz s = 4 := by unfold dsz; split <;> omega
theorem dsz_le (s : ByteArray) : dsz s ≤ s.size := by unfold dsz; split <;> omega
theorem dsz_1 {s : ByteArray} (h : dsz s = 1) : 0 ≤ bt s 0 ∧ bt s 0 < 64 := by have := bt_lo s 0; unfold dsz at h; split at h <;> omega
theorem dsz_2 {s : ByteArray} (h : dsz s = 2) : 64 ≤ bt s 0 ∧ bt s 0 < 128 := by have := bt_lo s 0; unfold dsz at h; split at h <;> omega
theorem dsz_4 {s : ByteArray} (h : dsz s = 4) : 128 ≤ bt s 0 ∧ bt s 0 < 192 := by have := bt_lo s 0; unfold dsz at h; split at h <;> omega

/-- What was decoded can be encoded, in at most as many bytes. -/
theorem dval_range (s : ByteArray) : 0 ≤ dval s ∧ dval s ≤ 1073741823 := by
  have a := bt_lo s 1; have b := bt_hi s 1; have c := bt_lo s 2; have d := bt_hi s 2; have e := bt_lo s 3; have f := bt_hi s 3
  rcases dsz_cases s with h | h | h | h
  · rw [dval_0 h]; omega
  · have := dsz_1 h; rw [dval_1 h]; omega
  · have := dsz_2 h; rw [dval_2 h]; omega
  · have := dsz_4 h; rw [dval_4 h]; omega
theorem vlen_dval_le (s : ByteArray) (h0 : 0 < dsz s) : vlen (dval s) ≤ dsz s ∧ 0 < vlen (dval s) := by
  have a := bt_lo s 1; have b := bt_hi s 1; have c := bt_lo s 2; have d := bt_hi s 2; have e := bt_lo s 3; have f := bt_hi s 3
  rcases dsz_cases s with h | h | h | h
  · omega
  · have := dsz_1 h; have hv := dval_1 h; unfold vlen; omega
  · have := dsz_2 h; have hv := dval_2 h; unfold vlen; omega
  · have := dsz_4 h; have hv := dval_4 h; unfold vlen; omega

/-- Exactly the shortest encodings are what encoding again gives. -/
theorem enc_dec_iff (s : ByteArray) (h0 : 0 < dsz s) : encS (dval s) = s ↔ dsz s = s.size ∧ dsz s = vlen (dval s) := by
  have hp := vlen_dval_le s h0
  constructor
  · intro h
    have k := dec_enc' (dval s) (by omega)
    have z := encS_size (dval s)
    rw [h] at k z
    exact ⟨by omega, k.1⟩
  · rintro ⟨h1, h2⟩
    have z := encS_size (dval s)
    refine ext_bt (by omega) fun i hi => ?_
    have hi' : (i : Int) < dsz s := by omega
    have a := bt_lo s 1; have b := bt_hi s 1; have c := bt_lo s 2; have d := bt_hi s 2; have e := bt_lo s 3; have f := bt_hi s 3
    rw [← app_empty (encS (dval s))]
    rcases dsz_cases s with h | h | h | h
    · omega
    · have hb := dsz_1 h; have hv := dval_1 h
      obtain rfl : i = 0 := by omega
      unfold encS; rw [encN_1 (by omega), hv]
      exact bt_nums _ _ _ _ rfl (by omega) (by omega)
    · have hb := dsz_2 h; have hv := dval_2 h
      unfold encS; rw [encN_2 (by omega)]
      obtain rfl | rfl : i = 0 ∨ i = 1 := by omega
      · rw [bt_nums _ _ _ _ rfl (by omega) (by omega)]; omega
      · rw [bt_nums _ _ _ _ rfl (by omega) (by omega)]; omega
    · have hb := dsz_4 h; have hv := dval_4 h
      unfold encS; rw [encN_4 (by omega)]
      obtain rfl | rfl | rfl | rfl : i = 0 ∨ i = 1 ∨ i = 2 ∨ i = 3 := by omega
      all_goals (rw [bt_nums _ _ _ _ rfl (by omega) (by omega)]; omega)

theorem cut_size (r : ByteArray) (k : Nat) : (r.extract k r.size).size = r.size - k := by simp
theorem dsz_nonneg (s : ByteArray) : 0 ≤ dsz s := by have := dsz_cases s; omega

def joinS (xs : List Int) : ByteArray := xs.foldl (fun a n => a ++ encS n) ⟨#[]⟩
def okAll (xs : List Int) : Bool := xs.all (fun n => decide (0 ≤ n ∧ n ≤ 1073741823))
theorem joinS_step (xs : List Int) (k : Nat) (h : k < xs.length) : joinS (xs.take (k + 1)) = joinS (xs.take k) ++ encS (xs.getD k 0) := by
  unfold joinS
  rw [List.take_succ_eq_append_getElem h, List.foldl_append]
  simp [List.getD_eq_getElem?_getD, List.getElem?_eq_getElem h]
theorem okAll_step (xs : List Int) (k : Nat) (h : k < xs.length) (ho : okAll (xs.take k) = true) (hk : 0 ≤ xs.getD k 0 ∧ xs.getD k 0 ≤ 1073741823) : okAll (xs.take (k + 1)) = true := by
  unfold okAll at ho ⊢
  rw [List.take_succ_eq_append_getElem h, List.all_append, ho]
  have e : xs.getD k 0 = xs[k] := by rw [List.getD_eq_getElem?_getD, List.getElem?_eq_getElem h]; rfl
  rw [e] at hk
  simp; exact hk
theorem all_at (xs : List Int) (k : Nat) (h : k < xs.length) (ho : okAll xs = true) : 0 ≤ xs.getD k 0 ∧ xs.getD k 0 ≤ 1073741823 := by
  have e : xs.getD k 0 = xs[k] := by rw [List.getD_eq_getElem?_getD, List.getElem?_eq_getElem h]; rfl
  rw [e]
  unfold okAll at ho
  rw [List.all_eq_true] at ho
  simpa using ho _ (List.getElem_mem h)
theorem okAll_bad (xs : List Int) (k : Nat) (h : k < xs.length) (hk : ¬ (0 ≤ xs.getD k 0 ∧ xs.getD k 0 ≤ 1073741823)) : okAll xs = false := by
  have e : xs.getD k 0 = xs[k] := by rw [List.getD_eq_getElem?_getD, List.getElem?_eq_getElem h]; rfl
  rw [e] at hk
  unfold okAll
  rw [List.all_eq_false]
  exact ⟨xs[k], List.getElem_mem h, by simpa using hk⟩
theorem joinS_size : ∀ (xs : List Int), (joinS xs).size ≤ 4 * xs.length := by
  intro xs
  unfold joinS
  have key : ∀ (l : List Int) (a : ByteArray), (l.foldl (fun a n => a ++ encS n) a).size ≤ a.size + 4 * l.length := by
    intro l
    induction l with
    | nil => intro a; simp
    | cons n l ih =>
      intro a
      have := ih (a ++ encS n)
      have h4 : (encS n).size ≤ 4 := by have := encS_size n; have := vlen_cases n; omega
      rw [size_app] at this
      simp only [List.foldl_cons, List.length_cons]
      omega
  have := key xs ⟨#[]⟩
  have z : (⟨#[]⟩ : ByteArray).size = 0 := rfl
  omega
theorem bt_app (r t : ByteArray) (i : Nat) (h : i < r.size) : bt (r ++ t) i = bt r i := by
  unfold bt
  have e : (r ++ t).data.toList = r.data.toList ++ t.data.toList := by simp
  rw [e, List.getD_eq_getElem?_getD, List.getD_eq_getElem?_getD, List.getElem?_append_left (by rw [size_of_list]; exact h)]
theorem dsz_app (r t : ByteArray) (h : dsz r ≠ 0) : dsz (r ++ t) = dsz r ∧ dval (r ++ t) = dval r := by
  have z := size_app r t
  have hle := dsz_le r
  rcases dsz_cases r with k | k | k | k
  · exact absurd k h
  · have b0 := bt_app r t 0 (by omega)
    have := dsz_1 k
    have hd : dsz (r ++ t) = 1 := by unfold dsz; rw [if_neg (by omega)]; omega
    exact ⟨by omega, by rw [dval_1 hd, dval_1 k, b0]⟩
  · have b0 := bt_app r t 0 (by omega)
    have b1 := bt_app r t 1 (by omega)
    have := dsz_2 k
    have hd : dsz (r ++ t) = 2 := by unfold dsz; rw [if_neg (by omega)]; omega
    exact ⟨by omega, by rw [dval_2 hd, dval_2 k, b0, b1]⟩
  · have b0 := bt_app r t 0 (by omega)
    have b1 := bt_app r t 1 (by omega)
    have b2 := bt_app r t 2 (by omega)
    have b3 := bt_app r t 3 (by omega)
    have := dsz_4 k
    have hd : dsz (r ++ t) = 4 := by unfold dsz; rw [if_neg (by omega)]; omega
    exact ⟨by omega, by rw [dval_4 hd, dval_4 k, b0, b1, b2, b3]⟩
theorem bytes_ext {a b : ByteArray} (h : a.data.toList = b.data.toList) : a = b := by
  cases a with | mk a => cases b with | mk b => cases a with | mk l => cases b with | mk m => simp at h; rw [h]
theorem cut_app (r t : ByteArray) (k : Nat) (h : k ≤ r.size) : (r ++ t).extract k (r ++ t).size = r.extract k r.size ++ t := by
  apply bytes_ext
  have e1 : (r ++ t).data.toList = r.data.toList ++ t.data.toList := by simp
  have e2 : (r.extract k r.size ++ t).data.toList = (r.extract k r.size).data.toList ++ t.data.toList := by simp
  rw [e2, Lib.extract_data, Lib.extract_data, e1, List.drop_append_of_le_length (by rw [size_of_list]; exact h), size_app]
  have l1 : (r.data.toList.drop k).length = r.size - k := by rw [List.length_drop, size_of_list]
  have l2 := size_of_list t
  rw [List.take_of_length_le (by rw [List.length_append, l1, l2]; omega), List.take_of_length_le (by rw [l1]; omega)]
theorem app_assoc' (a b c : ByteArray) : a ++ b ++ c = a ++ (b ++ c) := by
  apply bytes_ext
  simp
theorem fold_app : ∀ (l : List Int) (a b : ByteArray), l.foldl (fun a n => a ++ encS n) (a ++ b) = a ++ l.foldl (fun a n => a ++ encS n) b
  | [], a, b => rfl
  | n :: l, a, b => by
    rw [List.foldl_cons, List.foldl_cons, ← fold_app l a (b ++ encS n), app_assoc']
theorem joinS_cons (n : Int) (l : List Int) : joinS (n :: l) = encS n ++ joinS l := by
  have e : (⟨#[]⟩ : ByteArray) ++ encS n = encS n ++ ⟨#[]⟩ := by
    rw [app_nil]
    apply bytes_ext
    simp
  unfold joinS
  rw [List.foldl_cons, e, fold_app]
theorem cut_front (a t : ByteArray) (k : Nat) (h : k = a.size) : (a ++ t).extract k (a ++ t).size = t := by
  apply bytes_ext
  have e1 : (a ++ t).data.toList = a.data.toList ++ t.data.toList := by simp
  have l1 := size_of_list a
  have l2 := size_of_list t
  rw [Lib.extract_data, e1, h, size_app, ← l1, List.drop_left, List.take_of_length_le (by omega)]
theorem okAll_cons (n : Int) (l : List Int) (h : okAll (n :: l) = true) : (0 ≤ n ∧ n ≤ 1073741823) ∧ okAll l = true := by
  unfold okAll at h ⊢
  rw [List.all_cons, Bool.and_eq_true] at h
  exact ⟨by simpa using h.1, h.2⟩

end Go.Proofs.Ythdhjjbgegcncaa
