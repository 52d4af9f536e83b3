/- Chapter 1: splitting a concatenation (plain bytes). -/
import Derived.Test.YtfppnaaofkicaaaSplit
namespace Go.Proofs.Ytfppnaaofkicaaa
open Go.RowKit
set_option linter.unusedVariables false
set_option linter.unusedSimpArgs false

theorem bt_app (r t : ByteArray) (i : Nat) (h : i < r.size) : bt (r ++ t) i = bt r i := by
  unfold bt
  have e : (r ++ t).data.toList = r.data.toList ++ t.data.toList := by simp
  rw [e, List.getD_eq_getElem?_getD, List.getD_eq_getElem?_getD, List.getElem?_append_left (by rw [size_of_list]; exact h)]
theorem dsz_app (r t : ByteArray) (h : dsz r ≠ 0) : dsz (r ++ t) = dsz r ∧ dval (r ++ t) = dval r := by
  have z := size_app r t
  have hle := dsz_le r
  rcases dsz_cases r with k | k | k | k
  · exact absurd k h
  · have b0 := bt_app r t 0 (by omega)
    have := dsz_1 k
    have hd : dsz (r ++ t) = 1 := by unfold dsz; rw [if_neg (by omega)]; omega
    exact ⟨by omega, by rw [dval_1 hd, dval_1 k, b0]⟩
  · have b0 := bt_app r t 0 (by omega)
    have b1 := bt_app r t 1 (by omega)
    have := dsz_2 k
    have hd : dsz (r ++ t) = 2 := by unfold dsz; rw [if_neg (by omega)]; omega
    exact ⟨by omega, by rw [dval_2 hd, dval_2 k, b0, b1]⟩
  · have b0 := bt_app r t 0 (by omega)
    have b1 := bt_app r t 1 (by omega)
    have b2 := bt_app r t 2 (by omega)
    have b3 := bt_app r t 3 (by omega)
    have := dsz_4 k
    have hd : dsz (r ++ t) = 4 := by unfold dsz; rw [if_neg (by omega)]; omega
    exact ⟨by omega, by rw [dval_4 hd, dval_4 k, b0, b1, b2, b3]⟩
theorem bytes_ext {a b : ByteArray} (h : a.data.toList = b.data.toList) : a = b := by
  cases a with | mk a => cases b with | mk b => cases a with | mk l => cases b with | mk m => simp at h; rw [h]
theorem cut_app (r t : ByteArray) (k : Nat) (h : k ≤ r.size) : (r ++ t).extract k (r ++ t).size = r.extract k r.size ++ t := by
  apply bytes_ext
  have e1 : (r ++ t).data.toList = r.data.toList ++ t.data.toList := by simp
  have e2 : (r.extract k r.size ++ t).data.toList = (r.extract k r.size).data.toList ++ t.data.toList := by simp
  rw [e2, Lib.extract_data, Lib.extract_data, e1, List.drop_append_of_le_length (by rw [size_of_list]; exact h), size_app]
  have l1 : (r.data.toList.drop k).length = r.size - k := by rw [List.length_drop, size_of_list]
  have l2 := size_of_list t
  rw [List.take_of_length_le (by rw [List.length_append, l1, l2]; omega), List.take_of_length_le (by rw [l1]; omega)]

/-- More fuel changes nothing. -/
theorem spl_fuel : ∀ (f g : Nat) (r : ByteArray) (acc : List Int), r.size < f → r.size < g → spl f r acc = spl g r acc
  | 0, _, r, _, h, _ => by omega
  | _ + 1, 0, r, _, _, h => by omega
  | f + 1, g + 1, r, acc, h, k => by
    rw [spl, spl]
    split
    · rfl
    · split
      · rfl
      · rename_i h0 hd
        have hp := dsz_cases r
        have hz := cut_size r (dsz r).toNat
        exact spl_fuel f g _ _ (by omega) (by omega)
theorem spl_ge : ∀ (f : Nat) (r : ByteArray) (acc zs : List Int), spl f r acc = some zs → acc.length ≤ zs.length
  | 0, r, acc, zs, h => by rw [spl] at h; injection h with h; rw [h]; exact Nat.le_refl _
  | f + 1, r, acc, zs, h => by
    rw [spl] at h
    split at h
    · injection h with h; rw [h]; exact Nat.le_refl _
    · split at h
      · cases h
      · have := spl_ge f _ _ _ h
        rw [List.length_append] at this
        omega
/-- What was collected before stands in front, as long as there is room. -/
theorem spl_acc : ∀ (f : Nat) (r : ByteArray) (acc b zs : List Int), spl f r b = some zs → acc.length + zs.length ≤ 20 → spl f r (acc ++ b) = some (acc ++ zs)
  | 0, r, acc, b, zs, h, _ => by rw [spl] at h ⊢; injection h with h; rw [h]
  | f + 1, r, acc, b, zs, h, hl => by
    rw [spl] at h ⊢
    split
    · rename_i h0
      rw [if_pos h0] at h
      injection h with h; rw [h]
    · rename_i h0
      rw [if_neg h0] at h
      by_cases hd : dsz r = 0 ∨ b.length = 20
      · rw [if_pos hd] at h; cases h
      · rw [if_neg hd] at h
        have hb := spl_ge f _ _ _ h
        rw [List.length_append, List.length_singleton] at hb
        rw [if_neg (by rw [List.length_append]; omega), List.append_assoc]
        exact spl_acc f _ acc _ zs h hl
theorem spl_cat : ∀ (f : Nat) (r t : ByteArray) (acc zs : List Int), r.size < f → spl f r acc = some zs → spl (f + t.size) (r ++ t) acc = spl (t.size + 1) t zs
  | 0, r, _, _, _, h, _ => by omega
  | f + 1, r, t, acc, zs, h, e => by
    rw [spl] at e
    have z := size_app r t
    by_cases h0 : r.size = 0
    · rw [if_pos h0] at e
      injection e with e
      have hr : r ++ t = t := by
        apply bytes_ext
        have : r.data.toList = [] := by rw [← List.length_eq_zero_iff, size_of_list]; exact h0
        simp [this]
      rw [hr, e]
      exact spl_fuel _ _ _ _ (by omega) (by omega)
    · rw [if_neg h0] at e
      by_cases hd : dsz r = 0 ∨ acc.length = 20
      · rw [if_pos hd] at e; cases e
      · rw [if_neg hd] at e
        obtain ⟨d1, d2⟩ := dsz_app r t (by omega)
        have hle := dsz_le r
        have hn := dsz_nonneg r
        have hz := cut_size r (dsz r).toNat
        have ih := spl_cat f (r.extract (dsz r).toNat r.size) t (acc ++ [dval r]) zs (by omega) e
        have hq : f + 1 + t.size = (f + t.size) + 1 := by omega
        rw [hq, spl, if_neg (by omega), if_neg (by omega), d1, d2, cut_app r t _ (by omega)]
        exact ih

/-- The list of a concatenation. -/
theorem splF_cat (s t : ByteArray) (xs ys : List Int) (h1 : splF s = some xs) (h2 : splF t = some ys) (hl : xs.length + ys.length ≤ 20) : splF (s ++ t) = some (xs ++ ys) := by
  unfold splF at h1 h2 ⊢
  have a := spl_cat (s.size + 1) s t [] xs (by omega) h1
  have b := spl_acc (t.size + 1) t xs [] ys h2 (by omega)
  rw [List.append_nil] at b
  rw [b] at a
  rw [← a]
  have z := size_app s t
  exact spl_fuel _ _ _ _ (by omega) (by omega)

end Go.Proofs.Ytfppnaaofkicaaa
