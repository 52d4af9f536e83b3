/- The program's reading of a frame, plain: it is what decoding is. -/
import Derived.Test.YthflokonihegbaaDeMath
import Derived.Test.YthflokonihegbaaSEnc
import Derived.Test.YthflokonihegbaaIVb
namespace Go.Proofs.Ythflokonihegbaa
open Go.RowKit
set_option linter.unusedVariables false
set_option linter.unusedSimpArgs false

/-- What is left to read, and whether the reader has failed. -/
abbrev St := ByteArray × Bool
def good (r : ByteArray) : Prop := dsz r ≠ 0 ∧ dsz r = vlen (dval r)
instance (r : ByteArray) : Decidable (good r) := by unfold good; exact inferInstance
def rI (st : St) : Int × St := if good st.1 then (dval st.1, (cut st.1 (dsz st.1).toNat, st.2)) else (0, (st.1, true))
def rD (st : St) : ByteArray × St := if (rI st).1 > ((rI st).2.1.size : Int) then (⟨#[]⟩, ((rI st).2.1, true)) else ((rI st).2.1.extract 0 (rI st).1.toNat, (cut (rI st).2.1 (rI st).1.toNat, (rI st).2.2))
def rL : Nat → Int → St → List (Int × Int) × St
  | 0, _, st => ([], st)
  | m + 1, z, st => ((z + 2 + (rI st).1, z + 2 + (rI st).1 + (rI (rI st).2).1) :: (rL m (z + 2 + (rI st).1 + (rI (rI st).2).1) (rI (rI st).2).2).1, (rL m (z + 2 + (rI st).1 + (rI (rI st).2).1) (rI (rI st).2).2).2)
def rR (st : St) : List (Int × Int) × St := if (rI st).1 > 16 then ([], ((rI st).2.1, true)) else rL (rI st).1.toNat (-2) (rI st).2

theorem rI_yes {st : St} (h : good st.1) : rI st = (dval st.1, (cut st.1 (dsz st.1).toNat, st.2)) := if_pos h
theorem rI_no {st : St} (h : ¬ good st.1) : rI st = (0, (st.1, true)) := if_neg h
theorem rI_range (st : St) : 0 ≤ (rI st).1 ∧ (rI st).1 ≤ 1073741823 := by
  by_cases h : good st.1
  · rw [rI_yes h]; exact dval_range _
  · rw [rI_no h]; simp
theorem rI_size (st : St) : (rI st).2.1.size ≤ st.1.size := by
  by_cases h : good st.1
  · rw [rI_yes h]; simp only; rw [cut_sz]; omega
  · rw [rI_no h]; simp
theorem rI_snd {st : St} (h : (rI st).2.2 = false) : st.2 = false ∧ st.1 = encS (rI st).1 ++ (rI st).2.1 := by
  by_cases hg : good st.1
  · rw [rI_yes hg] at h ⊢
    exact ⟨h, enc_front _ hg.1 hg.2⟩
  · rw [rI_no hg] at h; simp at h
theorem rI_enc (n : Int) (x : ByteArray) (fl : Bool) (h : 0 ≤ n ∧ n ≤ 1073741823) : rI (encS n ++ x, fl) = (n, (x, fl)) := by
  have hv : vlen n ≠ 0 := by unfold vlen; omega
  obtain ⟨h1, h2⟩ := dec_enc n x hv
  have hg : good (encS n ++ x) := ⟨by rw [h1]; exact hv, by rw [h1, h2]⟩
  rw [rI_yes (st := (encS n ++ x, fl)) hg]
  simp only
  rw [h1, h2]
  have hz := encS_size n
  rw [show (vlen n).toNat = (encS n).size from by omega, cut_app_front]
theorem joinS_one (n : Int) : joinS [n] = encS n := by rw [joinS_cons]; exact app_nil _
theorem cut_split (r : ByteArray) (n : Nat) (h : n ≤ r.size) : r = r.extract 0 n ++ cut r n ∧ (r.extract 0 n).size = n := split_at r n h
theorem rD_snd {st : St} (h : (rD st).2.2 = false) : st.2 = false ∧ st.1 = joinS [((rD st).1.size : Int)] ++ (rD st).1 ++ (rD st).2.1 := by
  have hr := rI_range st
  unfold rD at h ⊢
  by_cases hg : (rI st).1 > ((rI st).2.1.size : Int)
  · rw [if_pos hg] at h; simp at h
  · rw [if_neg hg] at h ⊢
    simp only at h ⊢
    obtain ⟨h1, h2⟩ := rI_snd h
    obtain ⟨h3, h4⟩ := cut_split (rI st).2.1 (rI st).1.toNat (by omega)
    refine ⟨h1, ?_⟩
    rw [h4, app_assoc', ← h3, joinS_one, show (((rI st).1.toNat : Nat) : Int) = (rI st).1 from by omega]
    exact h2
theorem rD_enc (d x : ByteArray) (fl : Bool) (h : d.size ≤ 1073741823) : rD (joinS [(d.size : Int)] ++ d ++ x, fl) = (d, (x, fl)) := by
  unfold rD
  rw [joinS_one, app_assoc', rI_enc _ _ _ (by omega)]
  simp only
  rw [if_neg (by rw [size_app]; omega), Int.toNat_natCast, cut_app_front]
  obtain ⟨h1, h2⟩ := cut_split (d ++ x) d.size (by rw [size_app]; omega)
  rw [cut_app_front] at h1
  rw [← (app_inj d ((d ++ x).extract 0 d.size) x x h2.symm h1).1]
theorem rL_snd : ∀ (m : Nat) (z : Int) (st : St), (rL m z st).2.2 = false → st.2 = false ∧ st.1 = joinS (deltas z (rL m z st).1) ++ (rL m z st).2.1 ∧ (rL m z st).1.length = m
  | 0, z, st, h => ⟨h, by rw [rL, deltas, joinS_nil_app], rfl⟩
  | m + 1, z, st, h => by
    rw [rL] at h ⊢
    simp only at h ⊢
    obtain ⟨h1, h2, h3⟩ := rL_snd m _ _ h
    obtain ⟨h4, h5⟩ := rI_snd h1
    obtain ⟨h6, h7⟩ := rI_snd h4
    refine ⟨h6, ?_, by simp [h3]⟩
    rw [deltas, joinS_cons, joinS_cons]
    simp only
    rw [show z + 2 + (rI st).1 - z - 2 = (rI st).1 from by omega, show z + 2 + (rI st).1 + (rI (rI st).2).1 - (z + 2 + (rI st).1) = (rI (rI st).2).1 from by omega, app_assoc', app_assoc', ← h2, ← h5]
    exact h7
theorem rL_enc : ∀ (l : List (Int × Int)) (z : Int) (x : ByteArray) (fl : Bool), okAll (deltas z l) = true → rL l.length z (joinS (deltas z l) ++ x, fl) = (l, (x, fl))
  | [], z, x, fl, _ => by rw [deltas, joinS_nil_app]; rfl
  | r :: t, z, x, fl, h => by
    rw [deltas] at h
    obtain ⟨k1, h⟩ := okAll_cons _ _ h
    obtain ⟨k2, h⟩ := okAll_cons _ _ h
    have ih := rL_enc t r.2 x fl h
    rw [List.length_cons, rL, deltas, joinS_cons, joinS_cons, app_assoc', app_assoc', rI_enc _ _ _ k1]
    simp only
    rw [rI_enc _ _ _ k2]
    simp only
    rw [show z + 2 + (r.1 - z - 2) = r.1 from by omega, show r.1 + (r.2 - r.1) = r.2 from by omega, ih]
theorem rR_snd {st : St} (h : (rR st).2.2 = false) : st.2 = false ∧ st.1 = joinS (((rR st).1.length : Int) :: deltas (-2) (rR st).1) ++ (rR st).2.1 := by
  have hr := rI_range st
  unfold rR at h ⊢
  by_cases hg : (rI st).1 > 16
  · rw [if_pos hg] at h; simp at h
  · rw [if_neg hg] at h ⊢
    obtain ⟨h1, h2, h3⟩ := rL_snd _ _ _ h
    obtain ⟨h4, h5⟩ := rI_snd h1
    refine ⟨h4, ?_⟩
    rw [joinS_cons, app_assoc', ← h2, h3, show (((rI st).1.toNat : Nat) : Int) = (rI st).1 from by omega]
    exact h5
theorem rR_enc (l : List (Int × Int)) (x : ByteArray) (fl : Bool) (hl : l.length ≤ 16) (h : okAll (deltas (-2) l) = true) : rR (joinS ((l.length : Int) :: deltas (-2) l) ++ x, fl) = (l, (x, fl)) := by
  unfold rR
  rw [joinS_cons, app_assoc', rI_enc _ _ _ (by omega)]
  simp only
  rw [if_neg (by omega), Int.toNat_natCast]
  exact rL_enc l (-2) x fl h

/-- A frame is read: its fields, and what is left. -/
def pbody (k : Int) (st : St) : Fr × St :=
  if k = 2 then (⟨k, (rI st).1, 0, 0, ⟨#[]⟩, (rR (rI st).2).1⟩, (rR (rI st).2).2)
  else if k = 3 then (⟨k, (rI st).1, (rI (rI st).2).1, (rI (rI (rI st).2).2).1, (rD (rI (rI (rI st).2).2).2).1, []⟩, (rD (rI (rI (rI st).2).2).2).2)
  else if k = 4 ∨ k = 7 then (⟨k, (rI st).1, (rI (rI st).2).1, 0, ⟨#[]⟩, []⟩, (rI (rI st).2).2)
  else if k = 9 then (⟨k, 0, 0, 0, (rD st).1, []⟩, (rD st).2)
  else if k = 5 ∨ k = 6 ∨ k = 8 ∨ k = 10 then (⟨k, (rI st).1, 0, 0, ⟨#[]⟩, []⟩, (rI st).2)
  else (⟨k, 0, 0, 0, ⟨#[]⟩, []⟩, st)
def pd (s : ByteArray) : Fr × St := pbody (rI (s, false)).1 (rI (s, false)).2
def pres (s : ByteArray) : Option (Fr × Nat) := if (0 ≤ (pd s).1.k ∧ (pd s).1.k ≤ 10) ∧ (pd s).2.2 = false ∧ finr (pd s).1 = true then some ((pd s).1, s.size - (pd s).2.1.size) else none

theorem pbody_k (k : Int) (st : St) : (pbody k st).1.k = k := by
  unfold pbody; repeat' split
  all_goals rfl
theorem pbody_norm (k : Int) (st : St) : fnorm (pbody k st).1 = (pbody k st).1 := by
  unfold pbody
  by_cases h2 : k = 2
  · subst h2; rfl
  by_cases h3 : k = 3
  · subst h3; rfl
  by_cases h4 : k = 4
  · subst h4; rfl
  by_cases h7 : k = 7
  · subst h7; rfl
  by_cases h9 : k = 9
  · subst h9; rfl
  by_cases h5 : k = 5
  · subst h5; rfl
  by_cases h6 : k = 6
  · subst h6; rfl
  by_cases h8 : k = 8
  · subst h8; rfl
  by_cases h10 : k = 10
  · subst h10; rfl
  rw [if_neg h2, if_neg h3, if_neg (by omega), if_neg h9, if_neg (by omega)]
  unfold fnorm
  simp [h2, h3, h9]
theorem pbody_snd (k : Int) (hk : 0 ≤ k ∧ k ≤ 10) (st : St) (h : (pbody k st).2.2 = false) : st.2 = false ∧ encS k ++ st.1 = fenc (pbody k st).1 ++ (pbody k st).2.1 := by
  have hkk : k = 0 ∨ k = 1 ∨ k = 2 ∨ k = 3 ∨ k = 4 ∨ k = 5 ∨ k = 6 ∨ k = 7 ∨ k = 8 ∨ k = 9 ∨ k = 10 := by omega
  unfold pbody at h ⊢
  have one : ∀ (k : Int), (rI st).2.2 = false → st.2 = false ∧ encS k ++ st.1 = joinS [k, (rI st).1] ++ (rI st).2.1 := fun k h => by
    obtain ⟨h1, h2⟩ := rI_snd h
    refine ⟨h1, ?_⟩
    rw [joinS_cons, joinS_one, app_assoc', ← h2]
  have two : ∀ (k : Int), (rI (rI st).2).2.2 = false → st.2 = false ∧ encS k ++ st.1 = joinS [k, (rI st).1, (rI (rI st).2).1] ++ (rI (rI st).2).2.1 := fun k h => by
    obtain ⟨h1, h2⟩ := rI_snd h
    obtain ⟨h3, h4⟩ := rI_snd h1
    refine ⟨h3, ?_⟩
    rw [joinS_cons, joinS_cons, joinS_one, app_assoc', app_assoc', ← h2, ← h4]
  rcases hkk with rfl | rfl | rfl | rfl | rfl | rfl | rfl | rfl | rfl | rfl | rfl
  · exact ⟨h, by rw [← joinS_one]; rfl⟩
  · exact ⟨h, by rw [← joinS_one]; rfl⟩
  · obtain ⟨h1, h2⟩ := rR_snd h
    obtain ⟨h3, h4⟩ := rI_snd h1
    refine ⟨h3, ?_⟩
    rw [if_pos rfl, fenc_2 _ rfl]
    simp only
    rw [joinS_app, app_assoc', show fhd ⟨2, (rI st).1, 0, 0, ⟨#[]⟩, (rR (rI st).2).1⟩ = [(rI st).1] from rfl, joinS_cons, joinS_one, app_assoc', List.singleton_append, ← h2, ← h4]
  · obtain ⟨h1, h2⟩ := rD_snd h
    obtain ⟨h3, h4⟩ := rI_snd h1
    obtain ⟨h5, h6⟩ := rI_snd h3
    obtain ⟨h7, h8⟩ := rI_snd h5
    refine ⟨h7, ?_⟩
    rw [if_neg (by omega), if_pos rfl, fenc_3 _ (.inl rfl)]
    simp only
    rw [joinS_app, show fhd ⟨3, (rI st).1, (rI (rI st).2).1, (rI (rI (rI st).2).2).1, (rD (rI (rI (rI st).2).2).2).1, []⟩ = [(rI st).1, (rI (rI st).2).1, (rI (rI (rI st).2).2).1] from rfl, joinS_cons, joinS_cons, joinS_cons, joinS_one]
    simp only [app_assoc'] at h2 ⊢
    rw [← h2, ← h4, ← h6, ← h8]
  · show st.2 = false ∧ encS 4 ++ st.1 = fenc ⟨4, (rI st).1, (rI (rI st).2).1, 0, ⟨#[]⟩, []⟩ ++ (rI (rI st).2).2.1
    rw [fenc_x _ (by simp) (by simp) (by simp)]
    exact two 4 h
  · show st.2 = false ∧ encS 5 ++ st.1 = fenc ⟨5, (rI st).1, 0, 0, ⟨#[]⟩, []⟩ ++ (rI st).2.1
    rw [fenc_x _ (by simp) (by simp) (by simp)]
    exact one 5 h
  · show st.2 = false ∧ encS 6 ++ st.1 = fenc ⟨6, (rI st).1, 0, 0, ⟨#[]⟩, []⟩ ++ (rI st).2.1
    rw [fenc_x _ (by simp) (by simp) (by simp)]
    exact one 6 h
  · show st.2 = false ∧ encS 7 ++ st.1 = fenc ⟨7, (rI st).1, (rI (rI st).2).1, 0, ⟨#[]⟩, []⟩ ++ (rI (rI st).2).2.1
    rw [fenc_x _ (by simp) (by simp) (by simp)]
    exact two 7 h
  · show st.2 = false ∧ encS 8 ++ st.1 = fenc ⟨8, (rI st).1, 0, 0, ⟨#[]⟩, []⟩ ++ (rI st).2.1
    rw [fenc_x _ (by simp) (by simp) (by simp)]
    exact one 8 h
  · obtain ⟨h1, h2⟩ := rD_snd h
    refine ⟨h1, ?_⟩
    rw [if_neg (by omega), if_neg (by omega), if_neg (by omega), if_pos rfl, fenc_3 _ (.inr rfl)]
    simp only
    rw [joinS_app, show fhd ⟨9, 0, 0, 0, (rD st).1, []⟩ = [] from rfl, joinS_one]
    simp only [app_assoc'] at h2 ⊢
    rw [← h2]
  · show st.2 = false ∧ encS 10 ++ st.1 = fenc ⟨10, (rI st).1, 0, 0, ⟨#[]⟩, []⟩ ++ (rI st).2.1
    rw [fenc_x _ (by simp) (by simp) (by simp)]
    exact one 10 h

theorem pd_enc {f : Fr} (hf : fok f = true) (t : ByteArray) : pd (fenc f ++ t) = (f, (t, false)) := by
  have hk := fok_k hf
  have hb := fok_bnd hf
  have hi := fints_ok hf
  have hu := fok_parts hf
  obtain ⟨k, a, b, c, d, rs⟩ := f
  simp only at hk hb hu
  have hkk : k = 0 ∨ k = 1 ∨ k = 2 ∨ k = 3 ∨ k = 4 ∨ k = 5 ∨ k = 6 ∨ k = 7 ∨ k = 8 ∨ k = 9 ∨ k = 10 := by omega
  obtain ⟨⟨u1, u2, u3⟩, ⟨u4, u5⟩, _, _⟩ := hu
  have hd0 : k ≠ 3 → k ≠ 9 → d = ⟨#[]⟩ := fun h3 h9 => bytes_zero (u5 h3 h9)
  have hr0 : k ≠ 2 → rs = [] := fun h2 => List.length_eq_zero_iff.1 (u4 h2)
  unfold fints at hi
  unfold pd
  rcases hkk with rfl | rfl | rfl | rfl | rfl | rfl | rfl | rfl | rfl | rfl | rfl
  · rw [u1 (by decide), u2 (by decide), u3 (by decide), hd0 (by omega) (by omega), hr0 (by omega), fenc_x _ (by simp) (by simp) (by simp)]
    show pbody (rI (joinS [0] ++ t, false)).1 (rI (joinS [0] ++ t, false)).2 = _
    rw [joinS_one, rI_enc _ _ _ (by omega)]; rfl
  · rw [u1 (by decide), u2 (by decide), u3 (by decide), hd0 (by omega) (by omega), hr0 (by omega), fenc_x _ (by simp) (by simp) (by simp)]
    show pbody (rI (joinS [1] ++ t, false)).1 (rI (joinS [1] ++ t, false)).2 = _
    rw [joinS_one, rI_enc _ _ _ (by omega)]; rfl
  · obtain ⟨i1, hi⟩ := okAll_cons _ _ hi
    obtain ⟨i2, hi⟩ := okAll_cons _ _ (show okAll (a :: ((rs.length : Int) :: deltas (-2) rs)) = true from hi)
    obtain ⟨i3, hi⟩ := okAll_cons _ _ hi
    rw [u1 (by decide), u2 (by decide), hd0 (by omega) (by omega), fenc_2 _ rfl]
    simp only
    rw [show ((2 : Int) :: fhd ⟨2, a, 0, 0, ⟨#[]⟩, rs⟩) = [2, a] from rfl, joinS_app, joinS_cons, joinS_one, app_assoc', app_assoc', rI_enc _ _ _ (by omega)]
    show (_, _) = _
    rw [rI_enc _ _ _ i2]
    simp only
    rw [List.singleton_append, rR_enc rs t false hb.1 hi]
  · obtain ⟨i1, hi⟩ := okAll_cons _ _ hi
    obtain ⟨i2, hi⟩ := okAll_cons _ _ (show okAll (a :: b :: c :: [(d.size : Int)]) = true from hi)
    obtain ⟨i3, hi⟩ := okAll_cons _ _ hi
    obtain ⟨i4, hi⟩ := okAll_cons _ _ hi
    rw [hr0 (by omega), fenc_3 _ (.inl rfl)]
    simp only
    rw [show ((3 : Int) :: fhd ⟨3, a, b, c, d, []⟩) = [3, a, b, c] from rfl, joinS_app, joinS_cons, joinS_cons, joinS_cons, joinS_one]
    simp only [app_assoc']
    rw [rI_enc _ _ _ (by omega)]
    show (_, _) = _
    rw [rI_enc _ _ _ i2]
    simp only
    rw [rI_enc _ _ _ i3]
    simp only
    rw [rI_enc _ _ _ i4]
    simp only
    rw [← app_assoc', rD_enc d t false (by omega)]
  · obtain ⟨i1, hi⟩ := okAll_cons _ _ hi
    obtain ⟨i2, hi⟩ := okAll_cons _ _ (show okAll (a :: b :: []) = true from hi)
    obtain ⟨i3, hi⟩ := okAll_cons _ _ hi
    rw [u1 (by decide), hd0 (by omega) (by omega), hr0 (by omega), fenc_x _ (by simp) (by simp) (by simp)]
    show pbody (rI (joinS [4, a, b] ++ t, false)).1 (rI (joinS [4, a, b] ++ t, false)).2 = _
    rw [joinS_cons, joinS_cons, joinS_one, app_assoc', app_assoc', rI_enc _ _ _ (by omega)]
    show (_, _) = _
    rw [rI_enc _ _ _ i2]
    simp only
    rw [rI_enc _ _ _ i3]
  · obtain ⟨i1, hi⟩ := okAll_cons _ _ hi
    obtain ⟨i2, hi⟩ := okAll_cons _ _ (show okAll (a :: []) = true from hi)
    rw [u1 (by decide), u2 (by decide), hd0 (by omega) (by omega), hr0 (by omega), fenc_x _ (by simp) (by simp) (by simp)]
    show pbody (rI (joinS [5, a] ++ t, false)).1 (rI (joinS [5, a] ++ t, false)).2 = _
    rw [joinS_cons, joinS_one, app_assoc', rI_enc _ _ _ (by omega)]
    show (_, _) = _
    rw [rI_enc _ _ _ i2]
  · obtain ⟨i1, hi⟩ := okAll_cons _ _ hi
    obtain ⟨i2, hi⟩ := okAll_cons _ _ (show okAll (a :: []) = true from hi)
    rw [u1 (by decide), u2 (by decide), hd0 (by omega) (by omega), hr0 (by omega), fenc_x _ (by simp) (by simp) (by simp)]
    show pbody (rI (joinS [6, a] ++ t, false)).1 (rI (joinS [6, a] ++ t, false)).2 = _
    rw [joinS_cons, joinS_one, app_assoc', rI_enc _ _ _ (by omega)]
    show (_, _) = _
    rw [rI_enc _ _ _ i2]
  · obtain ⟨i1, hi⟩ := okAll_cons _ _ hi
    obtain ⟨i2, hi⟩ := okAll_cons _ _ (show okAll (a :: b :: []) = true from hi)
    obtain ⟨i3, hi⟩ := okAll_cons _ _ hi
    rw [u1 (by decide), hd0 (by omega) (by omega), hr0 (by omega), fenc_x _ (by simp) (by simp) (by simp)]
    show pbody (rI (joinS [7, a, b] ++ t, false)).1 (rI (joinS [7, a, b] ++ t, false)).2 = _
    rw [joinS_cons, joinS_cons, joinS_one, app_assoc', app_assoc', rI_enc _ _ _ (by omega)]
    show (_, _) = _
    rw [rI_enc _ _ _ i2]
    simp only
    rw [rI_enc _ _ _ i3]
  · obtain ⟨i1, hi⟩ := okAll_cons _ _ hi
    obtain ⟨i2, hi⟩ := okAll_cons _ _ (show okAll (a :: []) = true from hi)
    rw [u1 (by decide), u2 (by decide), hd0 (by omega) (by omega), hr0 (by omega), fenc_x _ (by simp) (by simp) (by simp)]
    show pbody (rI (joinS [8, a] ++ t, false)).1 (rI (joinS [8, a] ++ t, false)).2 = _
    rw [joinS_cons, joinS_one, app_assoc', rI_enc _ _ _ (by omega)]
    show (_, _) = _
    rw [rI_enc _ _ _ i2]
  · rw [u1 (by decide), u2 (by decide), u3 (by decide), hr0 (by omega), fenc_3 _ (.inr rfl)]
    simp only
    rw [show ((9 : Int) :: fhd ⟨9, 0, 0, 0, d, []⟩) = [9] from rfl, joinS_app, joinS_one 9]
    simp only [app_assoc']
    rw [rI_enc _ _ _ (by omega)]
    show (_, _) = _
    rw [← app_assoc', rD_enc d t false (by omega)]
  · obtain ⟨i1, hi⟩ := okAll_cons _ _ hi
    obtain ⟨i2, hi⟩ := okAll_cons _ _ (show okAll (a :: []) = true from hi)
    rw [u1 (by decide), u2 (by decide), hd0 (by omega) (by omega), hr0 (by omega), fenc_x _ (by simp) (by simp) (by simp)]
    show pbody (rI (joinS [10, a] ++ t, false)).1 (rI (joinS [10, a] ++ t, false)).2 = _
    rw [joinS_cons, joinS_one, app_assoc', rI_enc _ _ _ (by omega)]
    show (_, _) = _
    rw [rI_enc _ _ _ i2]

theorem pres_eq (s : ByteArray) : pres s = dec4 s := by
  apply Option.ext
  rintro ⟨f, n⟩
  rw [dec4_iff]
  constructor
  · intro h
    unfold pres at h
    split at h
    · rename_i hc
      obtain ⟨hk, h1, h2⟩ := hc
      have hpk : (pd s).1.k = (rI (s, false)).1 := pbody_k _ _
      have hn : fnorm (pd s).1 = (pd s).1 := pbody_norm _ _
      obtain ⟨h3, h4⟩ := pbody_snd (rI (s, false)).1 (by rw [← hpk]; exact hk) (rI (s, false)).2 h1
      obtain ⟨h5, h6⟩ := rI_snd h3
      have hs : s = fenc (pd s).1 ++ (pd s).2.1 := h6.trans h4
      have hok : fok (pd s).1 = true := by rw [fok_eq, hn, h2, decide_eq_true hk, frEq_iff.2 rfl]; rfl
      have hsz := congrArg ByteArray.size hs
      rw [size_app] at hsz
      injection h with h
      injection h with ha hb
      rw [← ha, ← hb]
      exact ⟨hok, by omega, _, hs⟩
    · cases h
  · rintro ⟨hf, hn, t, rfl⟩
    unfold pres
    rw [pd_enc hf t]
    have hq := hf
    rw [fok_eq, Bool.and_eq_true, Bool.and_eq_true] at hq
    rw [if_pos ⟨fok_k hf, rfl, hq.2.1⟩]
    simp only
    rw [size_app, hn, show (fenc f).size + t.size - t.size = (fenc f).size from by omega]

end Go.Proofs.Ythflokonihegbaa
