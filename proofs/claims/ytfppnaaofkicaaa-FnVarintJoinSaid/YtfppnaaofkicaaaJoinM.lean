/- Chapter 1: joining and splitting undo each other (plain bytes). -/
import Derived.Test.YtfppnaaofkicaaaJoin
import Derived.Test.YtfppnaaofkicaaaCat
namespace Go.Proofs.Ytfppnaaofkicaaa
open Go.RowKit
set_option linter.unusedVariables false
set_option linter.unusedSimpArgs false

theorem app_assoc' (a b c : ByteArray) : a ++ b ++ c = a ++ (b ++ c) := by
  apply bytes_ext
  simp
theorem fold_app : ∀ (l : List Int) (a b : ByteArray), l.foldl (fun a n => a ++ encS n) (a ++ b) = a ++ l.foldl (fun a n => a ++ encS n) b
  | [], a, b => rfl
  | n :: l, a, b => by
    rw [List.foldl_cons, List.foldl_cons, ← fold_app l a (b ++ encS n), app_assoc']
theorem joinS_cons (n : Int) (l : List Int) : joinS (n :: l) = encS n ++ joinS l := by
  have e : (⟨#[]⟩ : ByteArray) ++ encS n = encS n ++ ⟨#[]⟩ := by
    rw [app_nil]
    apply bytes_ext
    simp
  unfold joinS
  rw [List.foldl_cons, e, fold_app]
theorem cut_front (a t : ByteArray) (k : Nat) (h : k = a.size) : (a ++ t).extract k (a ++ t).size = t := by
  apply bytes_ext
  have e1 : (a ++ t).data.toList = a.data.toList ++ t.data.toList := by simp
  have l1 := size_of_list a
  have l2 := size_of_list t
  rw [Lib.extract_data, e1, h, size_app, ← l1, List.drop_left, List.take_of_length_le (by omega)]
theorem okAll_cons (n : Int) (l : List Int) (h : okAll (n :: l) = true) : (0 ≤ n ∧ n ≤ 1073741823) ∧ okAll l = true := by
  unfold okAll at h ⊢
  rw [List.all_cons, Bool.and_eq_true] at h
  exact ⟨by simpa using h.1, h.2⟩

theorem spl_join : ∀ (xs : List Int) (f : Nat) (acc : List Int), okAll xs = true → (joinS xs).size < f → acc.length + xs.length ≤ 20 → spl f (joinS xs) acc = some (acc ++ xs)
  | [], f, acc, _, h, _ => by
    cases f with
    | zero => omega
    | succ f =>
      have : (joinS []).size = 0 := rfl
      rw [spl, if_pos this, List.append_nil]
  | n :: l, f, acc, ho, h, hl => by
    obtain ⟨hn, ho⟩ := okAll_cons n l ho
    have hv : vlen n ≠ 0 := by unfold vlen; omega
    rw [joinS_cons] at h ⊢
    have hz := encS_size n
    have hc := vlen_cases n
    have hs := size_app (encS n) (joinS l)
    obtain ⟨d1, d2⟩ := dec_enc n (joinS l) hv
    simp only [List.length_cons] at hl
    cases f with
    | zero => omega
    | succ f =>
      rw [spl, if_neg (by omega), if_neg (by omega), d1, d2, cut_front _ _ _ (by omega), spl_join l f _ ho (by omega) (by simp; omega), List.append_assoc]
      rfl
theorem splF_join (xs : List Int) (h : jok xs = true) : splF (jres xs) = some xs := by
  have e : jres xs = joinS xs := by unfold jres; rw [h]; rfl
  unfold jok at h
  rw [Bool.and_eq_true, decide_eq_true_eq] at h
  rw [e]
  unfold splF
  exact spl_join xs _ [] h.2 (by omega) (by simpa using h.1)

/-- What was split can be joined, to at most as many bytes. -/
theorem spl_ok : ∀ (f : Nat) (r : ByteArray) (acc zs : List Int), spl f r acc = some zs → r.size < f → okAll acc = true → okAll zs = true ∧ (joinS zs).size ≤ (joinS acc).size + r.size
  | 0, r, acc, zs, h, hf, _ => by omega
  | f + 1, r, acc, zs, h, hf, ho => by
    rw [spl] at h
    by_cases h0 : r.size = 0
    · rw [if_pos h0] at h
      injection h with h
      subst h
      exact ⟨ho, by omega⟩
    · rw [if_neg h0] at h
      by_cases hd : dsz r = 0 ∨ acc.length = 20
      · rw [if_pos hd] at h; cases h
      · rw [if_neg hd] at h
        have hr := dval_range r
        have hn := dsz_nonneg r
        have hle := dsz_le r
        obtain ⟨v1, v2⟩ := vlen_dval_le r (by omega)
        have hz := cut_size r (dsz r).toNat
        have hes := encS_size (dval r)
        have ho' : okAll (acc ++ [dval r]) = true := by
          unfold okAll at ho ⊢
          rw [List.all_append, ho]
          simp; exact hr
        obtain ⟨k1, k2⟩ := spl_ok f _ _ _ h (by omega) ho'
        have hj : joinS (acc ++ [dval r]) = joinS acc ++ encS (dval r) := by unfold joinS; rw [List.foldl_append]; rfl
        rw [hj, size_app] at k2
        exact ⟨k1, by omega⟩
theorem split_join (s : ByteArray) (xs : List Int) (h : splF s = some xs) : jok xs = true ∧ (jres xs).size ≤ s.size := by
  have hl : xs.length ≤ 20 := spl_len _ _ _ _ (by simp) h
  obtain ⟨h1, h2⟩ := spl_ok _ _ _ _ h (by omega) rfl
  have hj : jok xs = true := by unfold jok; rw [decide_eq_true hl, h1]; rfl
  have z : (joinS []).size = 0 := rfl
  exact ⟨hj, by unfold jres; rw [if_pos hj]; omega⟩
theorem jres_size (xs : List Int) : (jres xs).size ≤ 4 * xs.length := by
  unfold jres
  split
  · exact joinS_size xs
  · have : (⟨#[]⟩ : ByteArray).size = 0 := rfl
    omega

end Go.Proofs.Ytfppnaaofkicaaa
