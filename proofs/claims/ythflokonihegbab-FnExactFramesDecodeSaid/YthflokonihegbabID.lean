/- The program's FrameDecode. -/
import Derived.Test.YthflokonihegbabDeMath
import Derived.Test.YthflokonihegbabSEnc
import Derived.Test.YthflokonihegbabIB
import Derived.Test.YthflokonihegbabIA
import Derived.Test.YthflokonihegbabFrm
import Derived.Test.YthflokonihegbabRgOwn
import Derived.Maps.Range
import Derived.Test.YthflokonihegbabSRgs
import Derived.Test.YthflokonihegbabSFd
namespace Go.Proofs.Ythflokonihegbab
open Go.RowKit
set_option linter.unusedVariables false
set_option linter.unusedSimpArgs false

/-- What is left to read, and whether the reader has failed. -/
abbrev St := ByteArray × Bool
def good (r : ByteArray) : Prop := dsz r ≠ 0 ∧ dsz r = vlen (dval r)
instance (r : ByteArray) : Decidable (good r) := by unfold good; exact inferInstance
def rI (st : St) : Int × St := if good st.1 then (dval st.1, (cut st.1 (dsz st.1).toNat, st.2)) else (0, (st.1, true))
def rD (st : St) : ByteArray × St := if (rI st).1 > ((rI st).2.1.size : Int) then (⟨#[]⟩, ((rI st).2.1, true)) else ((rI st).2.1.extract 0 (rI st).1.toNat, (cut (rI st).2.1 (rI st).1.toNat, (rI st).2.2))
def rL : Nat → Int → St → List (Int × Int) × St
  | 0, _, st => ([], st)
  | m + 1, z, st => ((z + 2 + (rI st).1, z + 2 + (rI st).1 + (rI (rI st).2).1) :: (rL m (z + 2 + (rI st).1 + (rI (rI st).2).1) (rI (rI st).2).2).1, (rL m (z + 2 + (rI st).1 + (rI (rI st).2).1) (rI (rI st).2).2).2)
def rR (st : St) : List (Int × Int) × St := if (rI st).1 > 16 then ([], ((rI st).2.1, true)) else rL (rI st).1.toNat (-2) (rI st).2

theorem rI_yes {st : St} (h : good st.1) : rI st = (dval st.1, (cut st.1 (dsz st.1).toNat, st.2)) := if_pos h
theorem rI_no {st : St} (h : ¬ good st.1) : rI st = (0, (st.1, true)) := if_neg h
theorem rI_range (st : St) : 0 ≤ (rI st).1 ∧ (rI st).1 ≤ 1073741823 := by
  by_cases h : good st.1
  · rw [rI_yes h]; exact dval_range _
  · rw [rI_no h]; simp
theorem rI_size (st : St) : (rI st).2.1.size ≤ st.1.size := by
  by_cases h : good st.1
  · rw [rI_yes h]; simp only; rw [cut_sz]; omega
  · rw [rI_no h]; simp
theorem rI_snd {st : St} (h : (rI st).2.2 = false) : st.2 = false ∧ st.1 = encS (rI st).1 ++ (rI st).2.1 := by
  by_cases hg : good st.1
  · rw [rI_yes hg] at h ⊢
    exact ⟨h, enc_front _ hg.1 hg.2⟩
  · rw [rI_no hg] at h; simp at h
theorem rI_enc (n : Int) (x : ByteArray) (fl : Bool) (h : 0 ≤ n ∧ n ≤ 1073741823) : rI (encS n ++ x, fl) = (n, (x, fl)) := by
  have hv : vlen n ≠ 0 := by unfold vlen; omega
  obtain ⟨h1, h2⟩ := dec_enc n x hv
  have hg : good (encS n ++ x) := ⟨by rw [h1]; exact hv, by rw [h1, h2]⟩
  rw [rI_yes (st := (encS n ++ x, fl)) hg]
  simp only
  rw [h1, h2]
  have hz := encS_size n
  rw [show (vlen n).toNat = (encS n).size from by omega, cut_app_front]
theorem joinS_one (n : Int) : joinS [n] = encS n := by rw [joinS_cons]; exact app_nil _
theorem cut_split (r : ByteArray) (n : Nat) (h : n ≤ r.size) : r = r.extract 0 n ++ cut r n ∧ (r.extract 0 n).size = n := split_at r n h
theorem rD_snd {st : St} (h : (rD st).2.2 = false) : st.2 = false ∧ st.1 = joinS [((rD st).1.size : Int)] ++ (rD st).1 ++ (rD st).2.1 := by
  have hr := rI_range st
  unfold rD at h ⊢
  by_cases hg : (rI st).1 > ((rI st).2.1.size : Int)
  · rw [if_pos hg] at h; simp at h
  · rw [if_neg hg] at h ⊢
    simp only at h ⊢
    obtain ⟨h1, h2⟩ := rI_snd h
    obtain ⟨h3, h4⟩ := cut_split (rI st).2.1 (rI st).1.toNat (by omega)
    refine ⟨h1, ?_⟩
    rw [h4, app_assoc', ← h3, joinS_one, show (((rI st).1.toNat : Nat) : Int) = (rI st).1 from by omega]
    exact h2
theorem rD_enc (d x : ByteArray) (fl : Bool) (h : d.size ≤ 1073741823) : rD (joinS [(d.size : Int)] ++ d ++ x, fl) = (d, (x, fl)) := by
  unfold rD
  rw [joinS_one, app_assoc', rI_enc _ _ _ (by omega)]
  simp only
  rw [if_neg (by rw [size_app]; omega), Int.toNat_natCast, cut_app_front]
  obtain ⟨h1, h2⟩ := cut_split (d ++ x) d.size (by rw [size_app]; omega)
  rw [cut_app_front] at h1
  rw [← (app_inj d ((d ++ x).extract 0 d.size) x x h2.symm h1).1]
theorem rL_snd : ∀ (m : Nat) (z : Int) (st : St), (rL m z st).2.2 = false → st.2 = false ∧ st.1 = joinS (deltas z (rL m z st).1) ++ (rL m z st).2.1 ∧ (rL m z st).1.length = m
  | 0, z, st, h => ⟨h, by rw [rL, deltas, joinS_nil_app], rfl⟩
  | m + 1, z, st, h => by
    rw [rL] at h ⊢
    simp only at h ⊢
    obtain ⟨h1, h2, h3⟩ := rL_snd m _ _ h
    obtain ⟨h4, h5⟩ := rI_snd h1
    obtain ⟨h6, h7⟩ := rI_snd h4
    refine ⟨h6, ?_, by simp [h3]⟩
    rw [deltas, joinS_cons, joinS_cons]
    simp only
    rw [show z + 2 + (rI st).1 - z - 2 = (rI st).1 from by omega, show z + 2 + (rI st).1 + (rI (rI st).2).1 - (z + 2 + (rI st).1) = (rI (rI st).2).1 from by omega, app_assoc', app_assoc', ← h2, ← h5]
    exact h7
theorem rL_enc : ∀ (l : List (Int × Int)) (z : Int) (x : ByteArray) (fl : Bool), okAll (deltas z l) = true → rL l.length z (joinS (deltas z l) ++ x, fl) = (l, (x, fl))
  | [], z, x, fl, _ => by rw [deltas, joinS_nil_app]; rfl
  | r :: t, z, x, fl, h => by
    rw [deltas] at h
    obtain ⟨k1, h⟩ := okAll_cons _ _ h
    obtain ⟨k2, h⟩ := okAll_cons _ _ h
    have ih := rL_enc t r.2 x fl h
    rw [List.length_cons, rL, deltas, joinS_cons, joinS_cons, app_assoc', app_assoc', rI_enc _ _ _ k1]
    simp only
    rw [rI_enc _ _ _ k2]
    simp only
    rw [show z + 2 + (r.1 - z - 2) = r.1 from by omega, show r.1 + (r.2 - r.1) = r.2 from by omega, ih]
theorem rR_snd {st : St} (h : (rR st).2.2 = false) : st.2 = false ∧ st.1 = joinS (((rR st).1.length : Int) :: deltas (-2) (rR st).1) ++ (rR st).2.1 := by
  have hr := rI_range st
  unfold rR at h ⊢
  by_cases hg : (rI st).1 > 16
  · rw [if_pos hg] at h; simp at h
  · rw [if_neg hg] at h ⊢
    obtain ⟨h1, h2, h3⟩ := rL_snd _ _ _ h
    obtain ⟨h4, h5⟩ := rI_snd h1
    refine ⟨h4, ?_⟩
    rw [joinS_cons, app_assoc', ← h2, h3, show (((rI st).1.toNat : Nat) : Int) = (rI st).1 from by omega]
    exact h5
theorem rR_enc (l : List (Int × Int)) (x : ByteArray) (fl : Bool) (hl : l.length ≤ 16) (h : okAll (deltas (-2) l) = true) : rR (joinS ((l.length : Int) :: deltas (-2) l) ++ x, fl) = (l, (x, fl)) := by
  unfold rR
  rw [joinS_cons, app_assoc', rI_enc _ _ _ (by omega)]
  simp only
  rw [if_neg (by omega), Int.toNat_natCast]
  exact rL_enc l (-2) x fl h

/-- A frame is read: its fields, and what is left. -/
def pbody (k : Int) (st : St) : Fr × St :=
  if k = 2 then (⟨k, (rI st).1, 0, 0, ⟨#[]⟩, (rR (rI st).2).1⟩, (rR (rI st).2).2)
  else if k = 3 then (⟨k, (rI st).1, (rI (rI st).2).1, (rI (rI (rI st).2).2).1, (rD (rI (rI (rI st).2).2).2).1, []⟩, (rD (rI (rI (rI st).2).2).2).2)
  else if k = 4 ∨ k = 7 then (⟨k, (rI st).1, (rI (rI st).2).1, 0, ⟨#[]⟩, []⟩, (rI (rI st).2).2)
  else if k = 9 then (⟨k, 0, 0, 0, (rD st).1, []⟩, (rD st).2)
  else if k = 5 ∨ k = 6 ∨ k = 8 ∨ k = 10 then (⟨k, (rI st).1, 0, 0, ⟨#[]⟩, []⟩, (rI st).2)
  else (⟨k, 0, 0, 0, ⟨#[]⟩, []⟩, st)
def pd (s : ByteArray) : Fr × St := pbody (rI (s, false)).1 (rI (s, false)).2
def pres (s : ByteArray) : Option (Fr × Nat) := if (0 ≤ (pd s).1.k ∧ (pd s).1.k ≤ 10) ∧ (pd s).2.2 = false ∧ finr (pd s).1 = true then some ((pd s).1, s.size - (pd s).2.1.size) else none

theorem pbody_k (k : Int) (st : St) : (pbody k st).1.k = k := by
  unfold pbody; repeat' split
  all_goals rfl
theorem pbody_norm (k : Int) (st : St) : fnorm (pbody k st).1 = (pbody k st).1 := by
  unfold pbody
  by_cases h2 : k = 2
  · subst h2; rfl
  by_cases h3 : k = 3
  · subst h3; rfl
  by_cases h4 : k = 4
  · subst h4; rfl
  by_cases h7 : k = 7
  · subst h7; rfl
  by_cases h9 : k = 9
  · subst h9; rfl
  by_cases h5 : k = 5
  · subst h5; rfl
  by_cases h6 : k = 6
  · subst h6; rfl
  by_cases h8 : k = 8
  · subst h8; rfl
  by_cases h10 : k = 10
  · subst h10; rfl
  rw [if_neg h2, if_neg h3, if_neg (by omega), if_neg h9, if_neg (by omega)]
  unfold fnorm
  simp [h2, h3, h9]
theorem pbody_snd (k : Int) (hk : 0 ≤ k ∧ k ≤ 10) (st : St) (h : (pbody k st).2.2 = false) : st.2 = false ∧ encS k ++ st.1 = fenc (pbody k st).1 ++ (pbody k st).2.1 := by
  have hkk : k = 0 ∨ k = 1 ∨ k = 2 ∨ k = 3 ∨ k = 4 ∨ k = 5 ∨ k = 6 ∨ k = 7 ∨ k = 8 ∨ k = 9 ∨ k = 10 := by omega
  unfold pbody at h ⊢
  have one : ∀ (k : Int), (rI st).2.2 = false → st.2 = false ∧ encS k ++ st.1 = joinS [k, (rI st).1] ++ (rI st).2.1 := fun k h => by
    obtain ⟨h1, h2⟩ := rI_snd h
    refine ⟨h1, ?_⟩
    rw [joinS_cons, joinS_one, app_assoc', ← h2]
  have two : ∀ (k : Int), (rI (rI st).2).2.2 = false → st.2 = false ∧ encS k ++ st.1 = joinS [k, (rI st).1, (rI (rI st).2).1] ++ (rI (rI st).2).2.1 := fun k h => by
    obtain ⟨h1, h2⟩ := rI_snd h
    obtain ⟨h3, h4⟩ := rI_snd h1
    refine ⟨h3, ?_⟩
    rw [joinS_cons, joinS_cons, joinS_one, app_assoc', app_assoc', ← h2, ← h4]
  rcases hkk with rfl | rfl | rfl | rfl | rfl | rfl | rfl | rfl | rfl | rfl | rfl
  · exact ⟨h, by rw [← joinS_one]; rfl⟩
  · exact ⟨h, by rw [← joinS_one]; rfl⟩
  · obtain ⟨h1, h2⟩ := rR_snd h
    obtain ⟨h3, h4⟩ := rI_snd h1
    refine ⟨h3, ?_⟩
    rw [if_pos rfl, fenc_2 _ rfl]
    simp only
    rw [joinS_app, app_assoc', show fhd ⟨2, (rI st).1, 0, 0, ⟨#[]⟩, (rR (rI st).2).1⟩ = [(rI st).1] from rfl, joinS_cons, joinS_one, app_assoc', List.singleton_append, ← h2, ← h4]
  · obtain ⟨h1, h2⟩ := rD_snd h
    obtain ⟨h3, h4⟩ := rI_snd h1
    obtain ⟨h5, h6⟩ := rI_snd h3
    obtain ⟨h7, h8⟩ := rI_snd h5
    refine ⟨h7, ?_⟩
    rw [if_neg (by omega), if_pos rfl, fenc_3 _ (.inl rfl)]
    simp only
    rw [joinS_app, show fhd ⟨3, (rI st).1, (rI (rI st).2).1, (rI (rI (rI st).2).2).1, (rD (rI (rI (rI st).2).2).2).1, []⟩ = [(rI st).1, (rI (rI st).2).1, (rI (rI (rI st).2).2).1] from rfl, joinS_cons, joinS_cons, joinS_cons, joinS_one]
    simp only [app_assoc'] at h2 ⊢
    rw [← h2, ← h4, ← h6, ← h8]
  · show st.2 = false ∧ encS 4 ++ st.1 = fenc ⟨4, (rI st).1, (rI (rI st).2).1, 0, ⟨#[]⟩, []⟩ ++ (rI (rI st).2).2.1
    rw [fenc_x _ (by simp) (by simp) (by simp)]
    exact two 4 h
  · show st.2 = false ∧ encS 5 ++ st.1 = fenc ⟨5, (rI st).1, 0, 0, ⟨#[]⟩, []⟩ ++ (rI st).2.1
    rw [fenc_x _ (by simp) (by simp) (by simp)]
    exact one 5 h
  · show st.2 = false ∧ encS 6 ++ st.1 = fenc ⟨6, (rI st).1, 0, 0, ⟨#[]⟩, []⟩ ++ (rI st).2.1
    rw [fenc_x _ (by simp) (by simp) (by simp)]
    exact one 6 h
  · show st.2 = false ∧ encS 7 ++ st.1 = fenc ⟨7, (rI st).1, (rI (rI st).2).1, 0, ⟨#[]⟩, []⟩ ++ (rI (rI st).2).2.1
    rw [fenc_x _ (by simp) (by simp) (by simp)]
    exact two 7 h
  · show st.2 = false ∧ encS 8 ++ st.1 = fenc ⟨8, (rI st).1, 0, 0, ⟨#[]⟩, []⟩ ++ (rI st).2.1
    rw [fenc_x _ (by simp) (by simp) (by simp)]
    exact one 8 h
  · obtain ⟨h1, h2⟩ := rD_snd h
    refine ⟨h1, ?_⟩
    rw [if_neg (by omega), if_neg (by omega), if_neg (by omega), if_pos rfl, fenc_3 _ (.inr rfl)]
    simp only
    rw [joinS_app, show fhd ⟨9, 0, 0, 0, (rD st).1, []⟩ = [] from rfl, joinS_one]
    simp only [app_assoc'] at h2 ⊢
    rw [← h2]
  · show st.2 = false ∧ encS 10 ++ st.1 = fenc ⟨10, (rI st).1, 0, 0, ⟨#[]⟩, []⟩ ++ (rI st).2.1
    rw [fenc_x _ (by simp) (by simp) (by simp)]
    exact one 10 h

theorem pd_enc {f : Fr} (hf : fok f = true) (t : ByteArray) : pd (fenc f ++ t) = (f, (t, false)) := by
  have hk := fok_k hf
  have hb := fok_bnd hf
  have hi := fints_ok hf
  have hu := fok_parts hf
  obtain ⟨k, a, b, c, d, rs⟩ := f
  simp only at hk hb hu
  have hkk : k = 0 ∨ k = 1 ∨ k = 2 ∨ k = 3 ∨ k = 4 ∨ k = 5 ∨ k = 6 ∨ k = 7 ∨ k = 8 ∨ k = 9 ∨ k = 10 := by omega
  obtain ⟨⟨u1, u2, u3⟩, ⟨u4, u5⟩, _, _⟩ := hu
  have hd0 : k ≠ 3 → k ≠ 9 → d = ⟨#[]⟩ := fun h3 h9 => bytes_zero (u5 h3 h9)
  have hr0 : k ≠ 2 → rs = [] := fun h2 => List.length_eq_zero_iff.1 (u4 h2)
  unfold fints at hi
  unfold pd
  rcases hkk with rfl | rfl | rfl | rfl | rfl | rfl | rfl | rfl | rfl | rfl | rfl
  · rw [u1 (by decide), u2 (by decide), u3 (by decide), hd0 (by omega) (by omega), hr0 (by omega), fenc_x _ (by simp) (by simp) (by simp)]
    show pbody (rI (joinS [0] ++ t, false)).1 (rI (joinS [0] ++ t, false)).2 = _
    rw [joinS_one, rI_enc _ _ _ (by omega)]; rfl
  · rw [u1 (by decide), u2 (by decide), u3 (by decide), hd0 (by omega) (by omega), hr0 (by omega), fenc_x _ (by simp) (by simp) (by simp)]
    show pbody (rI (joinS [1] ++ t, false)).1 (rI (joinS [1] ++ t, false)).2 = _
    rw [joinS_one, rI_enc _ _ _ (by omega)]; rfl
  · obtain ⟨i1, hi⟩ := okAll_cons _ _ hi
    obtain ⟨i2, hi⟩ := okAll_cons _ _ (show okAll (a :: ((rs.length : Int) :: deltas (-2) rs)) = true from hi)
    obtain ⟨i3, hi⟩ := okAll_cons _ _ hi
    rw [u1 (by decide), u2 (by decide), hd0 (by omega) (by omega), fenc_2 _ rfl]
    simp only
    rw [show ((2 : Int) :: fhd ⟨2, a, 0, 0, ⟨#[]⟩, rs⟩) = [2, a] from rfl, joinS_app, joinS_cons, joinS_one, app_assoc', app_assoc', rI_enc _ _ _ (by omega)]
    show (_, _) = _
    rw [rI_enc _ _ _ i2]
    simp only
    rw [List.singleton_append, rR_enc rs t false hb.1 hi]
  · obtain ⟨i1, hi⟩ := okAll_cons _ _ hi
    obtain ⟨i2, hi⟩ := okAll_cons _ _ (show okAll (a :: b :: c :: [(d.size : Int)]) = true from hi)
    obtain ⟨i3, hi⟩ := okAll_cons _ _ hi
    obtain ⟨i4, hi⟩ := okAll_cons _ _ hi
    rw [hr0 (by omega), fenc_3 _ (.inl rfl)]
    simp only
    rw [show ((3 : Int) :: fhd ⟨3, a, b, c, d, []⟩) = [3, a, b, c] from rfl, joinS_app, joinS_cons, joinS_cons, joinS_cons, joinS_one]
    simp only [app_assoc']
    rw [rI_enc _ _ _ (by omega)]
    show (_, _) = _
    rw [rI_enc _ _ _ i2]
    simp only
    rw [rI_enc _ _ _ i3]
    simp only
    rw [rI_enc _ _ _ i4]
    simp only
    rw [← app_assoc', rD_enc d t false (by omega)]
  · obtain ⟨i1, hi⟩ := okAll_cons _ _ hi
    obtain ⟨i2, hi⟩ := okAll_cons _ _ (show okAll (a :: b :: []) = true from hi)
    obtain ⟨i3, hi⟩ := okAll_cons _ _ hi
    rw [u1 (by decide), hd0 (by omega) (by omega), hr0 (by omega), fenc_x _ (by simp) (by simp) (by simp)]
    show pbody (rI (joinS [4, a, b] ++ t, false)).1 (rI (joinS [4, a, b] ++ t, false)).2 = _
    rw [joinS_cons, joinS_cons, joinS_one, app_assoc', app_assoc', rI_enc _ _ _ (by omega)]
    show (_, _) = _
    rw [rI_enc _ _ _ i2]
    simp only
    rw [rI_enc _ _ _ i3]
  · obtain ⟨i1, hi⟩ := okAll_cons _ _ hi
    obtain ⟨i2, hi⟩ := okAll_cons _ _ (show okAll (a :: []) = true from hi)
    rw [u1 (by decide), u2 (by decide), hd0 (by omega) (by omega), hr0 (by omega), fenc_x _ (by simp) (by simp) (by simp)]
    show pbody (rI (joinS [5, a] ++ t, false)).1 (rI (joinS [5, a] ++ t, false)).2 = _
    rw [joinS_cons, joinS_one, app_assoc', rI_enc _ _ _ (by omega)]
    show (_, _) = _
    rw [rI_enc _ _ _ i2]
  · obtain ⟨i1, hi⟩ := okAll_cons _ _ hi
    obtain ⟨i2, hi⟩ := okAll_cons _ _ (show okAll (a :: []) = true from hi)
    rw [u1 (by decide), u2 (by decide), hd0 (by omega) (by omega), hr0 (by omega), fenc_x _ (by simp) (by simp) (by simp)]
    show pbody (rI (joinS [6, a] ++ t, false)).1 (rI (joinS [6, a] ++ t, false)).2 = _
    rw [joinS_cons, joinS_one, app_assoc', rI_enc _ _ _ (by omega)]
    show (_, _) = _
    rw [rI_enc _ _ _ i2]
  · obtain ⟨i1, hi⟩ := okAll_cons _ _ hi
    obtain ⟨i2, hi⟩ := okAll_cons _ _ (show okAll (a :: b :: []) = true from hi)
    obtain ⟨i3, hi⟩ := okAll_cons _ _ hi
    rw [u1 (by decide), hd0 (by omega) (by omega), hr0 (by omega), fenc_x _ (by simp) (by simp) (by simp)]
    show pbody (rI (joinS [7, a, b] ++ t, false)).1 (rI (joinS [7, a, b] ++ t, false)).2 = _
    rw [joinS_cons, joinS_cons, joinS_one, app_assoc', app_assoc', rI_enc _ _ _ (by omega)]
    show (_, _) = _
    rw [rI_enc _ _ _ i2]
    simp only
    rw [rI_enc _ _ _ i3]
  · obtain ⟨i1, hi⟩ := okAll_cons _ _ hi
    obtain ⟨i2, hi⟩ := okAll_cons _ _ (show okAll (a :: []) = true from hi)
    rw [u1 (by decide), u2 (by decide), hd0 (by omega) (by omega), hr0 (by omega), fenc_x _ (by simp) (by simp) (by simp)]
    show pbody (rI (joinS [8, a] ++ t, false)).1 (rI (joinS [8, a] ++ t, false)).2 = _
    rw [joinS_cons, joinS_one, app_assoc', rI_enc _ _ _ (by omega)]
    show (_, _) = _
    rw [rI_enc _ _ _ i2]
  · rw [u1 (by decide), u2 (by decide), u3 (by decide), hr0 (by omega), fenc_3 _ (.inr rfl)]
    simp only
    rw [show ((9 : Int) :: fhd ⟨9, 0, 0, 0, d, []⟩) = [9] from rfl, joinS_app, joinS_one 9]
    simp only [app_assoc']
    rw [rI_enc _ _ _ (by omega)]
    show (_, _) = _
    rw [← app_assoc', rD_enc d t false (by omega)]
  · obtain ⟨i1, hi⟩ := okAll_cons _ _ hi
    obtain ⟨i2, hi⟩ := okAll_cons _ _ (show okAll (a :: []) = true from hi)
    rw [u1 (by decide), u2 (by decide), hd0 (by omega) (by omega), hr0 (by omega), fenc_x _ (by simp) (by simp) (by simp)]
    show pbody (rI (joinS [10, a] ++ t, false)).1 (rI (joinS [10, a] ++ t, false)).2 = _
    rw [joinS_cons, joinS_one, app_assoc', rI_enc _ _ _ (by omega)]
    show (_, _) = _
    rw [rI_enc _ _ _ i2]

theorem pres_eq (s : ByteArray) : pres s = dec4 s := by
  apply Option.ext
  rintro ⟨f, n⟩
  rw [dec4_iff]
  constructor
  · intro h
    unfold pres at h
    split at h
    · rename_i hc
      obtain ⟨hk, h1, h2⟩ := hc
      have hpk : (pd s).1.k = (rI (s, false)).1 := pbody_k _ _
      have hn : fnorm (pd s).1 = (pd s).1 := pbody_norm _ _
      obtain ⟨h3, h4⟩ := pbody_snd (rI (s, false)).1 (by rw [← hpk]; exact hk) (rI (s, false)).2 h1
      obtain ⟨h5, h6⟩ := rI_snd h3
      have hs : s = fenc (pd s).1 ++ (pd s).2.1 := h6.trans h4
      have hok : fok (pd s).1 = true := by rw [fok_eq, hn, h2, decide_eq_true hk, frEq_iff.2 rfl]; rfl
      have hsz := congrArg ByteArray.size hs
      rw [size_app] at hsz
      injection h with h
      injection h with ha hb
      rw [← ha, ← hb]
      exact ⟨hok, by omega, _, hs⟩
    · cases h
  · rintro ⟨hf, hn, t, rfl⟩
    unfold pres
    rw [pd_enc hf t]
    have hq := hf
    rw [fok_eq, Bool.and_eq_true, Bool.and_eq_true] at hq
    rw [if_pos ⟨fok_k hf, rfl, hq.2.1⟩]
    simp only
    rw [size_app, hn, show (fenc f).size + t.size - t.size = (fenc f).size from by omega]

theorem front_dec (s : ByteArray) (h : dsz s ≠ 0) : dsz (s.extract 0 (dsz s).toNat) = dsz s ∧ dval (s.extract 0 (dsz s).toNat) = dval s ∧ (s.extract 0 (dsz s).toNat).size = (dsz s).toNat := by
  have hle := dsz_le s
  have hnn := dsz_nonneg s
  obtain ⟨h1, h2⟩ := split_at s (dsz s).toNat (by omega)
  have hb : ∀ i, i < (dsz s).toNat → bt (s.extract 0 (dsz s).toNat) i = bt s i := by
    intro i hi
    have := bt_app (s.extract 0 (dsz s).toNat) (cut s (dsz s).toNat) i (by omega)
    rw [← h1] at this
    exact this.symm
  rcases dsz_cases s with k | k | k | k
  · exact absurd k h
  · have b0 := hb 0 (by omega)
    have := dsz_1 k
    have hd : dsz (s.extract 0 (dsz s).toNat) = 1 := by unfold dsz at *; rw [h2] at *; rw [if_neg (by omega)]; omega
    exact ⟨by omega, by rw [dval_1 hd, dval_1 k, b0], h2⟩
  · have b0 := hb 0 (by omega)
    have b1 := hb 1 (by omega)
    have := dsz_2 k
    generalize hp : s.extract 0 (dsz s).toNat = p at *
    have hd : dsz p = 2 := by unfold dsz; rw [if_neg (by omega)]; omega
    exact ⟨by omega, by rw [dval_2 hd, dval_2 k, b0, b1], h2⟩
  · have b0 := hb 0 (by omega)
    have b1 := hb 1 (by omega)
    have b2 := hb 2 (by omega)
    have b3 := hb 3 (by omega)
    have := dsz_4 k
    generalize hp : s.extract 0 (dsz s).toNat = p at *
    have hd : dsz p = 4 := by unfold dsz; rw [if_neg (by omega)]; omega
    exact ⟨by omega, by rw [dval_4 hd, dval_4 k, b0, b1, b2, b3], h2⟩
theorem mini_front (s : ByteArray) : mini (s.extract 0 (dsz s).toNat) = decide (good s) := by
  have hnn := dsz_nonneg s
  by_cases h : dsz s = 0
  · have h2 : ¬ good s := fun g => g.1 h
    rw [decide_eq_false h2, h]
    have hz : (s.extract 0 (0 : Int).toNat).size = 0 := by have := (split_at s 0 (by omega)).2; exact this
    unfold mini
    rw [decide_eq_false_iff_not]
    have : dsz (s.extract 0 (0 : Int).toNat) = 0 := by unfold dsz; rw [if_pos hz]
    omega
  · obtain ⟨h1, h2, h3⟩ := front_dec s h
    unfold mini
    refine decide_eq_decide.2 ?_
    show _ ↔ (dsz s ≠ 0 ∧ dsz s = vlen (dval s))
    rw [h1, h2, h3]
    omega

/-- The reader at block b. -/
def Rdf (w : World) (b : Nat) (st : St) : Prop := Frm w b [.string st.1, .bool st.2] ∧ Thaw w b
theorem grown_set (w : World) (b i : Nat) (v : Value) : w.grownBy (w.setCell ⟨b, i, none⟩ v) (some b) :=
  ⟨rfl, rfl, rfl, by simp, fun k _ hk => Below.heap_setCell _ _ _ k (fun e => hk (by rw [e]))⟩
theorem Rdf.below {w w' : World} {B b : Nat} {st : St} (h : Rdf w b st) (hb : Below B w w') (hlt : b < B) : Rdf w' b st := ⟨h.1.below hb hlt, h.2.below hb hlt⟩
theorem Rdf.lt {w : World} {b : Nat} {st : St} (h : Rdf w b st) : b < w.heap.size := World.block_lt_of_cell? w _ (h.1 0)
def RdfPost (w : World) (b : Nat) (v : Value) (st : St) (e : Ending) (w' : World) : Prop := e = .returned v ∧ Rdf w' b st ∧ w.grownBy w' (some b)

set_option maxRecDepth 100000 in
set_option maxHeartbeats 1000000 in
theorem int_any (b : Nat) (st : St) (w : World) (h : Rdf w b st) (hs : st.1.size ≤ 4194304) : Calls Try.prog 59 #[.pointer (some ⟨b, 0, none⟩)] w (RdfPost w b (.int .i64 (rI st).1) (rI st).2) := by
  obtain ⟨r, fl⟩ := st
  have HR := Lib.hid h
  obtain ⟨hf, ht⟩ := h
  have c0 : w.cell? ⟨b, 0, none⟩ = some (.string r) := hf 0
  have c1 : w.cell? ⟨b, 1, none⟩ = some (.bool fl) := hf 1
  have z0 := ht 0
  have z1 := ht 1
  simp only at hs
  have hsm : r.size ≤ maxLen := by unfold maxLen; omega
  have hle := dsz_le r
  have hnn := dsz_nonneg r
  have HV := Lib.hid (rv_any r w hsm)
  have hms : (r.extract 0 (dsz r).toNat).size ≤ maxLen := by unfold maxLen; simp; omega
  have HM := Lib.hid (imin_any (r.extract 0 (dsz r).toNat) w hms)
  rw [mini_front] at HM
  clear hf ht hsm hms
  by_cases hg : good r
  · rw [decide_eq_true hg] at HM
    have HI := Lib.hid (rI_yes (st := (r, fl)) hg)
    simp only at HI
    have R1 : Hid (Rdf (w.setCell ⟨b, 0, none⟩ (.string (cut r (dsz r).toNat))) b (cut r (dsz r).toNat, fl)) := Lib.hid ⟨HR.out.1.set (i := 0) (by simp) _, HR.out.2.set _ _⟩
    unfold cut at *
    generalize dval r = q at *
    clear hg
    generalize dsz r = n at *
    go_enter Try.func59, Try.ntmps59
    go_wp2_with fail
    refine HV.out.mono ?_
    rintro e w' ⟨rfl, rfl⟩
    go_wp2_with fail
    refine HM.out.mono ?_
    rintro e w' ⟨rfl, rfl⟩
    go_wp2_with fail
    go_ret
    rw [HI.out]
    exact ⟨rfl, R1.out, grown_set _ _ _ _⟩
  · rw [decide_eq_false hg] at HM
    have HI := Lib.hid (rI_no (st := (r, fl)) hg)
    simp only at HI
    have R1 : Hid (Rdf (w.setCell ⟨b, 1, none⟩ (.bool true)) b (r, true)) := Lib.hid ⟨HR.out.1.set (i := 1) (by simp) _, HR.out.2.set _ _⟩
    generalize dval r = q at *
    clear hg
    generalize dsz r = n at *
    go_enter Try.func59, Try.ntmps59
    go_wp2_with fail
    refine HV.out.mono ?_
    rintro e w' ⟨rfl, rfl⟩
    go_wp2_with fail
    refine HM.out.mono ?_
    rintro e w' ⟨rfl, rfl⟩
    go_wp2_with fail
    go_ret
    rw [HI.out]
    exact ⟨rfl, R1.out, grown_set _ _ _ _⟩

set_option maxRecDepth 100000 in
set_option maxHeartbeats 1000000 in
theorem rdata_any (b : Nat) (st : St) (w : World) (h : Rdf w b st) (hs : st.1.size ≤ 4194304) : Calls Try.prog 61 #[.pointer (some ⟨b, 0, none⟩)] w (RdfPost w b (.string (rD st).1) (rD st).2) := by
  have HI := Lib.hid (int_any b st w h hs)
  have hsz := rI_size st
  have hrg := rI_range st
  have HD : Hid (rD st = if (rI st).1 > ((rI st).2.1.size : Int) then (⟨#[]⟩, ((rI st).2.1, true)) else ((rI st).2.1.extract 0 (rI st).1.toNat, (cut (rI st).2.1 (rI st).1.toNat, (rI st).2.2))) := Lib.hid rfl
  generalize rD st = D at *
  generalize rI st = p at *
  obtain ⟨n, r, fl⟩ := p
  simp only at hsz hrg HD HI
  obtain ⟨n0, n1⟩ := hrg
  by_cases hg : n > (r.size : Int)
  · rw [if_pos hg] at HD
    go_enter Try.func61, Try.ntmps61
    go_wp2_with fail
    refine HI.out.mono ?_
    rintro e w1 ⟨rfl, hR, hgr⟩
    have HG := Lib.hid hgr
    have c0 : w1.cell? ⟨b, 0, none⟩ = some (.string r) := hR.1 0
    have c1 : w1.cell? ⟨b, 1, none⟩ = some (.bool fl) := hR.1 1
    have z1 := hR.2 1
    have R1 : Hid (Rdf (w1.setCell ⟨b, 1, none⟩ (.bool true)) b (r, true)) := Lib.hid ⟨hR.1.set (i := 1) (by simp) _, hR.2.set _ _⟩
    clear hR hgr
    go_wp2_with fail
    go_ret
    rw [HD.out]
    exact ⟨rfl, R1.out, World.grownBy.trans HG.out (grown_set _ _ _ _)⟩
  · rw [if_neg hg] at HD
    have hg2 : n ≤ (r.size : Int) := by omega
    have hnt : (n.toNat : Int) = n := by omega
    have hg3 : n.toNat ≤ r.size := by omega
    unfold cut at HD
    go_enter Try.func61, Try.ntmps61
    go_wp2_with fail
    refine HI.out.mono ?_
    rintro e w1 ⟨rfl, hR, hgr⟩
    have HG := Lib.hid hgr
    have c0 : w1.cell? ⟨b, 0, none⟩ = some (.string r) := hR.1 0
    have c1 : w1.cell? ⟨b, 1, none⟩ = some (.bool fl) := hR.1 1
    have z0 := hR.2 0
    have R1 : Hid (Rdf (w1.setCell ⟨b, 0, none⟩ (.string (r.extract n.toNat r.size))) b (r.extract n.toNat r.size, fl)) := Lib.hid ⟨hR.1.set (i := 0) (by simp) _, hR.2.set _ _⟩
    clear hR hgr
    go_wp2_with fail
    go_ret
    rw [HD.out]
    exact ⟨rfl, R1.out, World.grownBy.trans HG.out (grown_set _ _ _ _)⟩

theorem Rdf.far {w w' : World} {b : Nat} {st : St} {row : Option Nat} (h : Rdf w b st) (hg : w.grownBy w' row) (hne : some b ≠ row) : Rdf w' b st :=
  ⟨fun i => (World.grownBy.cell_far hg ⟨b, i, none⟩ h.lt hne).trans (h.1 i), fun i => (World.grownBy.frozen_far hg ⟨b, i, none⟩ h.lt hne).trans (h.2 i)⟩
def IRgPost (w : World) (b : Nat) (p : List (Int × Int) × St) (e : Ending) (w' : World) : Prop :=
  ∃ a c, e = .returned (.slice a p.1.length c) ∧ OwnRg w' w.heap.size (.slice a p.1.length c) p.1 ∧ Rdf w' b p.2 ∧ w.grownBy w' (some b)
theorem own_nil (w : World) (B : Nat) (h : B ≤ w.heap.size) : OwnRg w B (.slice none 0 0) [] := ⟨rfl, .inl ⟨rfl, rfl⟩⟩
theorem rL_step (m : Nat) (z : Int) (st : St) : rL (m + 1) z st = ((z + 2 + (rI st).1, z + 2 + (rI st).1 + (rI (rI st).2).1) :: (rL m (z + 2 + (rI st).1 + (rI (rI st).2).1) (rI (rI st).2).2).1, (rL m (z + 2 + (rI st).1 + (rI (rI st).2).1) (rI (rI st).2).2).2) := rfl

set_option maxRecDepth 100000 in
set_option maxHeartbeats 2000000 in
theorem rranges_any (b : Nat) (st : St) (w : World) (h : Rdf w b st) (hs : st.1.size ≤ 4194304) : Calls Try.prog 60 #[.pointer (some ⟨b, 0, none⟩)] w (IRgPost w b (rR st)) := by
  have hbw : b < w.heap.size := h.lt
  have HI := Lib.hid (int_any b st w h hs)
  have hsz := rI_size st
  have hrg := rI_range st
  have HD : Hid (rR st = if (rI st).1 > 16 then ([], ((rI st).2.1, true)) else rL (rI st).1.toNat (-2) (rI st).2) := Lib.hid rfl
  generalize rR st = D at *
  generalize rI st = p at *
  obtain ⟨n, st1⟩ := p
  simp only at hsz hrg HD HI
  obtain ⟨n0, n1⟩ := hrg
  have HZ1 : Hid (st1.1.size ≤ 4194304) := Lib.hid (by omega)
  clear h hsz
  by_cases hg : n > 16
  · rw [if_pos hg] at HD
    go_enter Try.func60, Try.ntmps60
    go_wp2_with fail
    refine HI.out.mono ?_
    rintro e w1 ⟨rfl, hR, hgr⟩
    have HG := Lib.hid hgr
    have c1 : w1.cell? ⟨b, 1, none⟩ = some (.bool st1.2) := hR.1 1
    have z1 := hR.2 1
    have R1 : Hid (Rdf (w1.setCell ⟨b, 1, none⟩ (.bool true)) b (st1.1, true)) := Lib.hid ⟨hR.1.set (i := 1) (by simp) _, hR.2.set _ _⟩
    clear hR hgr
    go_wp2_with fail
    go_ret
    rw [HD.out]
    exact ⟨none, 0, rfl, own_nil _ _ (by have := HG.out.size; simp; omega), R1.out, World.grownBy.trans HG.out (grown_set _ _ _ _)⟩
  · rw [if_neg hg] at HD
    have hg2 : n ≤ 16 := by omega
    obtain ⟨i0, hi, hz0, hz1, hz2⟩ := info_parts try_infoRange
    have HIR := Lib.hid hi
    clear hi
    go_enter Try.func60, Try.ntmps60
    go_wp2_with fail
    refine HI.out.mono ?_
    rintro e w1 ⟨rfl, hR, hgr⟩
    have G1 : Hid (w.grownBy (w1.alloc (.cells #[] 85)) (some b)) := Lib.hid (World.grownBy.trans hgr (World.grownBy_alloc _ _ _))
    have R1 : Hid (Rdf (w1.alloc (.cells #[] 85)) b st1) := Lib.hid (hR.far (World.grownBy_alloc w1 _ none) (by simp))
    have O1 : Hid (OwnRg (w1.alloc (.cells #[] 85)) w.heap.size (.slice (some ⟨w1.heap.size, 0, none⟩) 0 0) []) := Lib.hid (own_new 85 2 w.heap.size w1 hgr.size)
    clear hR hgr
    go_wp2_with fail
    go_loopw [4, 5, 6, 7, 17] (fun lv zv _ _ iv wr => ∃ (k : Nat) (l : List (Int × Int)) (z : Int) (st' : St), (k : Int) ≤ n ∧ iv = .int .i64 (k : Int) ∧ zv = .int .i64 z ∧ (0 ≤ z ∧ z ≤ 2147483650 * (k : Int)) ∧ l.length ≤ k ∧ Hid (D = (l ++ (rL (n.toNat - k) (z - 2) st').1, (rL (n.toNat - k) (z - 2) st').2)) ∧ Hid (OwnRg wr w.heap.size lv l) ∧ Hid (Rdf wr b st') ∧ Hid (w.grownBy wr (some b)) ∧ Hid (st'.1.size ≤ 4194304)) (fun _ _ _ _ iv _ => n.toNat - (intOf iv).toNat)
    case atStart => exact ⟨0, [], 0, st1, by omega, rfl, rfl, by omega, Nat.le_refl _, HD.out, O1.out, R1.out, G1.out, HZ1.out⟩
    case round =>
      obtain ⟨k, l, z, st', hk, rfl, rfl, hz, hl, HDD, HO, HR, HGR, HZ⟩ := hrel
      obtain ⟨la, lc, rfl⟩ := ownsRow_shape HO.out
      by_cases hlt : (k : Int) < n
      · have HX := Lib.hid (int_any b st' wr HR.out HZ.out)
        have hr1 := rI_range st'
        have hr2 := rI_range (rI st').2
        have hz1' := rI_size st'
        have hz2' := rI_size (rI st').2
        have HDn := Lib.hid (rL_step (n.toNat - (k + 1)) (z - 2) st')
        rw [show n.toNat - (k + 1) + 1 = n.toNat - k from by omega] at HDn
        rw [HDn.out] at HDD
        have HY := Lib.hid (fun W h => int_any b (rI st').2 W h (by have := HZ.out; omega))
        generalize rI st' = p at *
        obtain ⟨x, st2⟩ := p
        simp only at HX hr1 hr2 hz1' hz2' HDD HY
        generalize rI st2 = p2 at *
        obtain ⟨y, st3⟩ := p2
        simp only at HY hr2 hz2' HDD
        have HZ3 : Hid (st3.1.size ≤ 4194304) := Lib.hid (by have := HZ.out; omega)
        have v1 : IntKind.i64.wrap (z + x) = z + x := IntWalk.i64_in _ (by omega)
        have v2 : IntKind.i64.wrap (z + x + y) = z + x + y := IntWalk.i64_in _ (by omega)
        have v3 : IntKind.i64.wrap (z + x + y + 2) = z + x + y + 2 := IntWalk.i64_in _ (by omega)
        clear hz1' hz2' HDn
        go_wp2_with fail
        refine HX.out.mono ?_
        rintro e w2 ⟨rfl, hR2, hgr2⟩
        have HR2 := Lib.hid hR2
        have HG2 := Lib.hid (World.grownBy.trans HGR.out hgr2)
        have HO2 := Lib.hid (OwnRg.picked HO.out hgr2 hbw)
        clear hR2 hgr2
        go_wp2_with fail
        refine (HY.out _ HR2.out).mono ?_
        rintro e w3 ⟨rfl, hR3, hgr3⟩
        have HR3 := Lib.hid hR3
        have HG3 := Lib.hid (World.grownBy.trans HG2.out hgr3)
        have HO3 := Lib.hid (OwnRg.picked HO2.out hgr3 hbw)
        have hw3 := HG3.out.size
        clear hR3 hgr3
        go_wp2_with (at_builtin; refine hold ?_)
        refine unhold ?_
        refine wpList_append_own_at (w := w3.alloc (.cells #[.int .i64 (z + x), .int .i64 (z + x + y)] 85)) rfl (.tmp 27) (.tmp 31) 27 rfl w.heap.size 85 i0 (.agg #[.int .i64 0, .int .i64 0]) 2 16 Try.underlying27 HIR.out hz0 hz1 hz2 rfl (by decide) _ _ _ rfl (World.ownsRow.alloc HO3.out _) ⟨w3.heap.size, 0, none⟩ 1 1 [.int .i64 (z + x), .int .i64 (z + x + y)] rfl rfl (cell_two_new _ _ _ _) (one2 _ _) ?c1 ?c2 ?c3 ?_
        case c1 => unfold maxLen; omega
        case c2 => omega
        case c3 => simp; omega
        intro v3 w4 ho4 hg4 hiff4 hob4
        have HO4 := Lib.hid (own_snoc ho4)
        have HG4 : Hid (w.grownBy w4 (some b)) := Lib.hid (World.grownBy.andThen (World.grownBy.trans HG3.out (World.grownBy_alloc w3 _ _)) hg4 fun j hj => .inl (World.ownsRow.lt HO3.out j hj).1)
        have HR4 : Hid (Rdf w4 b st3) := Lib.hid ((HR3.out.far (World.grownBy_alloc w3 _ none) (by simp)).far hg4 (fun e => by have := (World.ownsRow.lt HO3.out b e.symm).1; omega))
        clear ho4 hg4 hiff4 hob4
        have HDF : Hid (D = ((l ++ [(z + x, z + x + y)]) ++ (rL (n.toNat - (k + 1)) (z + x + y + 2 - 2) st3).1, (rL (n.toNat - (k + 1)) (z + x + y + 2 - 2) st3).2)) := Lib.hid (by
          rw [HDD.out, show z - 2 + 2 + x = z + x from by omega, show z + x + y + 2 - 2 = z + x + y from by omega, List.append_assoc]; rfl)
        have hl4 : (l ++ [(z + x, z + x + y)]).length ≤ k + 1 := by rw [List.length_append, List.length_singleton]; omega
        generalize l ++ [(z + x, z + x + y)] = l4 at *
        go_wp2_with fail
        go_roundw
        case rel => exact ⟨k + 1, l4, z + x + y + 2, st3, by omega, by go_num, rfl, by omega, hl4, HDF.out, HO4.out, HR4.out, HG4.out, HZ3.out⟩
        case measure => simp [intOf]; omega
      · have HE : Hid (D = (l, st')) := Lib.hid (by
          rw [HDD.out, show n.toNat - k = 0 from by omega]
          show (l ++ [], st') = (l, st')
          rw [List.append_nil])
        go_wp2_with fail
        go_ret
        rw [HE.out]
        exact ⟨la, lc, rfl, HO.out, HR.out, HGR.out⟩

def BdPost (w : World) (b : Nat) (p : Fr × St) (e : Ending) (w' : World) : Prop :=
  ∃ a c, e = .returned (bodyR p.1 (.slice a p.1.rs.length c)) ∧ OwnRg w' w.heap.size (.slice a p.1.rs.length c) p.1.rs ∧ Rdf w' b p.2 ∧ w.grownBy w' (some b)
theorem rD_size (st : St) : (rD st).2.1.size ≤ st.1.size := by
  have := rI_size st
  unfold rD
  split
  · exact this
  · simp only; rw [cut_sz]; omega

set_option maxRecDepth 100000 in
set_option maxHeartbeats 1000000 in
theorem body_0 (b : Nat) (st : St) (w : World) (h : Rdf w b st) (hs : st.1.size ≤ 4194304) (hk : (rI st).1 = 0) : Calls Try.prog 40 #[.pointer (some ⟨b, 0, none⟩)] w (BdPost w b (pbody 0 (rI st).2)) := by
  have HI := Lib.hid (int_any b st w h hs)
  have hz1 := rI_size st
  rw [hk] at HI
  clear h hk
  generalize (rI st).2 = s1 at *
  have HP : Hid (pbody 0 s1 = (⟨0, 0, 0, 0, ⟨#[]⟩, []⟩, s1)) := Lib.hid (by
    show (_, _) = _
    rfl)
  rw [HP.out]
  go_enter Try.func40, Try.ntmps40
  go_wp2_with fail
  refine HI.out.mono ?_
  rintro e w1 ⟨rfl, hR, hgr⟩
  have HR1 := Lib.hid hR
  have HG1 := Lib.hid hgr
  clear hR hgr
  go_wp2_with fail
  go_ret2
  exact ⟨none, 0, rfl, own_nil _ _ HG1.out.size, HR1.out, HG1.out⟩
set_option maxRecDepth 100000 in
set_option maxHeartbeats 1000000 in
theorem body_1 (b : Nat) (st : St) (w : World) (h : Rdf w b st) (hs : st.1.size ≤ 4194304) (hk : (rI st).1 = 1) : Calls Try.prog 40 #[.pointer (some ⟨b, 0, none⟩)] w (BdPost w b (pbody 1 (rI st).2)) := by
  have HI := Lib.hid (int_any b st w h hs)
  have hz1 := rI_size st
  rw [hk] at HI
  clear h hk
  generalize (rI st).2 = s1 at *
  have HP : Hid (pbody 1 s1 = (⟨1, 0, 0, 0, ⟨#[]⟩, []⟩, s1)) := Lib.hid (by
    show (_, _) = _
    rfl)
  rw [HP.out]
  go_enter Try.func40, Try.ntmps40
  go_wp2_with fail
  refine HI.out.mono ?_
  rintro e w1 ⟨rfl, hR, hgr⟩
  have HR1 := Lib.hid hR
  have HG1 := Lib.hid hgr
  clear hR hgr
  go_wp2_with fail
  go_ret2
  exact ⟨none, 0, rfl, own_nil _ _ HG1.out.size, HR1.out, HG1.out⟩
set_option maxRecDepth 100000 in
set_option maxHeartbeats 1000000 in
theorem body_2 (b : Nat) (st : St) (w : World) (h : Rdf w b st) (hs : st.1.size ≤ 4194304) (hk : (rI st).1 = 2) : Calls Try.prog 40 #[.pointer (some ⟨b, 0, none⟩)] w (BdPost w b (pbody 2 (rI st).2)) := by
  have HI := Lib.hid (int_any b st w h hs)
  have hz1 := rI_size st
  rw [hk] at HI
  clear h hk
  generalize (rI st).2 = s1 at *
  obtain ⟨x1, s2, h1⟩ : ∃ x s, rI s1 = (x, s) := ⟨_, _, rfl⟩
  have HC1 := Lib.hid (fun W h => int_any b s1 W h (by omega))
  rw [h1] at HC1
  have hz2 := rI_size s1
  rw [h1] at hz2
  simp only at hz2
  obtain ⟨x2, s3, h2⟩ : ∃ x s, rR s2 = (x, s) := ⟨_, _, rfl⟩
  have HC2 := Lib.hid (fun W h => rranges_any b s2 W h (by omega))
  rw [h2] at HC2
  have HP : Hid (pbody 2 s1 = (⟨2, x1, 0, 0, ⟨#[]⟩, x2⟩, s3)) := Lib.hid (by
    show (_, _) = _
    rw [h1]
    simp only
    rw [h2])
  rw [HP.out]
  clear h1 h2
  go_enter Try.func40, Try.ntmps40
  go_wp2_with fail
  refine HI.out.mono ?_
  rintro e w1 ⟨rfl, hR, hgr⟩
  have HR1 := Lib.hid hR
  have HG1 := Lib.hid hgr
  clear hR hgr
  go_wp2_with fail
  refine (HC1.out _ HR1.out).mono ?_
  rintro e w2 ⟨rfl, hR, hgr⟩
  have HR2 := Lib.hid hR
  have HG2 := Lib.hid (World.grownBy.trans HG1.out hgr)
  clear hR hgr
  go_wp2_with fail
  refine (HC2.out _ HR2.out).mono ?_
  rintro e w3 ⟨ra, rc, rfl, hO, hR, hgr⟩
  simp only at hO hR ⊢
  have HR3 := Lib.hid hR
  have HO := Lib.hid (OwnRg.lower hO HG2.out.size)
  have HG3 := Lib.hid (World.grownBy.trans HG2.out hgr)
  clear hR hgr hO
  go_wp2_with fail
  go_ret2
  exact ⟨ra, rc, rfl, HO.out, HR3.out, HG3.out⟩
set_option maxRecDepth 100000 in
set_option maxHeartbeats 1000000 in
theorem body_3 (b : Nat) (st : St) (w : World) (h : Rdf w b st) (hs : st.1.size ≤ 4194304) (hk : (rI st).1 = 3) : Calls Try.prog 40 #[.pointer (some ⟨b, 0, none⟩)] w (BdPost w b (pbody 3 (rI st).2)) := by
  have HI := Lib.hid (int_any b st w h hs)
  have hz1 := rI_size st
  rw [hk] at HI
  clear h hk
  generalize (rI st).2 = s1 at *
  obtain ⟨x1, s2, h1⟩ : ∃ x s, rI s1 = (x, s) := ⟨_, _, rfl⟩
  have HC1 := Lib.hid (fun W h => int_any b s1 W h (by omega))
  rw [h1] at HC1
  have hz2 := rI_size s1
  rw [h1] at hz2
  simp only at hz2
  obtain ⟨x2, s3, h2⟩ : ∃ x s, rI s2 = (x, s) := ⟨_, _, rfl⟩
  have HC2 := Lib.hid (fun W h => int_any b s2 W h (by omega))
  rw [h2] at HC2
  have hz3 := rI_size s2
  rw [h2] at hz3
  simp only at hz3
  obtain ⟨x3, s4, h3⟩ : ∃ x s, rI s3 = (x, s) := ⟨_, _, rfl⟩
  have HC3 := Lib.hid (fun W h => int_any b s3 W h (by omega))
  rw [h3] at HC3
  have hz4 := rI_size s3
  rw [h3] at hz4
  simp only at hz4
  obtain ⟨x4, s5, h4⟩ : ∃ x s, rD s4 = (x, s) := ⟨_, _, rfl⟩
  have HC4 := Lib.hid (fun W h => rdata_any b s4 W h (by omega))
  rw [h4] at HC4
  have hz5 := rD_size s4
  rw [h4] at hz5
  simp only at hz5
  have HP : Hid (pbody 3 s1 = (⟨3, x1, x2, x3, x4, []⟩, s5)) := Lib.hid (by
    show (_, _) = _
    rw [h1]
    simp only
    rw [h2]
    simp only
    rw [h3]
    simp only
    rw [h4])
  rw [HP.out]
  clear h1 h2 h3 h4
  go_enter Try.func40, Try.ntmps40
  go_wp2_with fail
  refine HI.out.mono ?_
  rintro e w1 ⟨rfl, hR, hgr⟩
  have HR1 := Lib.hid hR
  have HG1 := Lib.hid hgr
  clear hR hgr
  go_wp2_with fail
  refine (HC1.out _ HR1.out).mono ?_
  rintro e w2 ⟨rfl, hR, hgr⟩
  have HR2 := Lib.hid hR
  have HG2 := Lib.hid (World.grownBy.trans HG1.out hgr)
  clear hR hgr
  go_wp2_with fail
  refine (HC2.out _ HR2.out).mono ?_
  rintro e w3 ⟨rfl, hR, hgr⟩
  have HR3 := Lib.hid hR
  have HG3 := Lib.hid (World.grownBy.trans HG2.out hgr)
  clear hR hgr
  go_wp2_with fail
  refine (HC3.out _ HR3.out).mono ?_
  rintro e w4 ⟨rfl, hR, hgr⟩
  have HR4 := Lib.hid hR
  have HG4 := Lib.hid (World.grownBy.trans HG3.out hgr)
  clear hR hgr
  go_wp2_with fail
  refine (HC4.out _ HR4.out).mono ?_
  rintro e w5 ⟨rfl, hR, hgr⟩
  have HR5 := Lib.hid hR
  have HG5 := Lib.hid (World.grownBy.trans HG4.out hgr)
  clear hR hgr
  go_wp2_with fail
  go_ret2
  exact ⟨none, 0, rfl, own_nil _ _ HG5.out.size, HR5.out, HG5.out⟩
set_option maxRecDepth 100000 in
set_option maxHeartbeats 1000000 in
theorem body_4 (b : Nat) (st : St) (w : World) (h : Rdf w b st) (hs : st.1.size ≤ 4194304) (hk : (rI st).1 = 4) : Calls Try.prog 40 #[.pointer (some ⟨b, 0, none⟩)] w (BdPost w b (pbody 4 (rI st).2)) := by
  have HI := Lib.hid (int_any b st w h hs)
  have hz1 := rI_size st
  rw [hk] at HI
  clear h hk
  generalize (rI st).2 = s1 at *
  obtain ⟨x1, s2, h1⟩ : ∃ x s, rI s1 = (x, s) := ⟨_, _, rfl⟩
  have HC1 := Lib.hid (fun W h => int_any b s1 W h (by omega))
  rw [h1] at HC1
  have hz2 := rI_size s1
  rw [h1] at hz2
  simp only at hz2
  obtain ⟨x2, s3, h2⟩ : ∃ x s, rI s2 = (x, s) := ⟨_, _, rfl⟩
  have HC2 := Lib.hid (fun W h => int_any b s2 W h (by omega))
  rw [h2] at HC2
  have hz3 := rI_size s2
  rw [h2] at hz3
  simp only at hz3
  have HP : Hid (pbody 4 s1 = (⟨4, x1, x2, 0, ⟨#[]⟩, []⟩, s3)) := Lib.hid (by
    show (_, _) = _
    rw [h1]
    simp only
    rw [h2])
  rw [HP.out]
  clear h1 h2
  go_enter Try.func40, Try.ntmps40
  go_wp2_with fail
  refine HI.out.mono ?_
  rintro e w1 ⟨rfl, hR, hgr⟩
  have HR1 := Lib.hid hR
  have HG1 := Lib.hid hgr
  clear hR hgr
  go_wp2_with fail
  refine (HC1.out _ HR1.out).mono ?_
  rintro e w2 ⟨rfl, hR, hgr⟩
  have HR2 := Lib.hid hR
  have HG2 := Lib.hid (World.grownBy.trans HG1.out hgr)
  clear hR hgr
  go_wp2_with fail
  refine (HC2.out _ HR2.out).mono ?_
  rintro e w3 ⟨rfl, hR, hgr⟩
  have HR3 := Lib.hid hR
  have HG3 := Lib.hid (World.grownBy.trans HG2.out hgr)
  clear hR hgr
  go_wp2_with fail
  go_ret2
  exact ⟨none, 0, rfl, own_nil _ _ HG3.out.size, HR3.out, HG3.out⟩
set_option maxRecDepth 100000 in
set_option maxHeartbeats 1000000 in
theorem body_5 (b : Nat) (st : St) (w : World) (h : Rdf w b st) (hs : st.1.size ≤ 4194304) (hk : (rI st).1 = 5) : Calls Try.prog 40 #[.pointer (some ⟨b, 0, none⟩)] w (BdPost w b (pbody 5 (rI st).2)) := by
  have HI := Lib.hid (int_any b st w h hs)
  have hz1 := rI_size st
  rw [hk] at HI
  clear h hk
  generalize (rI st).2 = s1 at *
  obtain ⟨x1, s2, h1⟩ : ∃ x s, rI s1 = (x, s) := ⟨_, _, rfl⟩
  have HC1 := Lib.hid (fun W h => int_any b s1 W h (by omega))
  rw [h1] at HC1
  have hz2 := rI_size s1
  rw [h1] at hz2
  simp only at hz2
  have HP : Hid (pbody 5 s1 = (⟨5, x1, 0, 0, ⟨#[]⟩, []⟩, s2)) := Lib.hid (by
    show (_, _) = _
    rw [h1])
  rw [HP.out]
  clear h1
  go_enter Try.func40, Try.ntmps40
  go_wp2_with fail
  refine HI.out.mono ?_
  rintro e w1 ⟨rfl, hR, hgr⟩
  have HR1 := Lib.hid hR
  have HG1 := Lib.hid hgr
  clear hR hgr
  go_wp2_with fail
  refine (HC1.out _ HR1.out).mono ?_
  rintro e w2 ⟨rfl, hR, hgr⟩
  have HR2 := Lib.hid hR
  have HG2 := Lib.hid (World.grownBy.trans HG1.out hgr)
  clear hR hgr
  go_wp2_with fail
  go_ret2
  exact ⟨none, 0, rfl, own_nil _ _ HG2.out.size, HR2.out, HG2.out⟩
set_option maxRecDepth 100000 in
set_option maxHeartbeats 1000000 in
theorem body_6 (b : Nat) (st : St) (w : World) (h : Rdf w b st) (hs : st.1.size ≤ 4194304) (hk : (rI st).1 = 6) : Calls Try.prog 40 #[.pointer (some ⟨b, 0, none⟩)] w (BdPost w b (pbody 6 (rI st).2)) := by
  have HI := Lib.hid (int_any b st w h hs)
  have hz1 := rI_size st
  rw [hk] at HI
  clear h hk
  generalize (rI st).2 = s1 at *
  obtain ⟨x1, s2, h1⟩ : ∃ x s, rI s1 = (x, s) := ⟨_, _, rfl⟩
  have HC1 := Lib.hid (fun W h => int_any b s1 W h (by omega))
  rw [h1] at HC1
  have hz2 := rI_size s1
  rw [h1] at hz2
  simp only at hz2
  have HP : Hid (pbody 6 s1 = (⟨6, x1, 0, 0, ⟨#[]⟩, []⟩, s2)) := Lib.hid (by
    show (_, _) = _
    rw [h1])
  rw [HP.out]
  clear h1
  go_enter Try.func40, Try.ntmps40
  go_wp2_with fail
  refine HI.out.mono ?_
  rintro e w1 ⟨rfl, hR, hgr⟩
  have HR1 := Lib.hid hR
  have HG1 := Lib.hid hgr
  clear hR hgr
  go_wp2_with fail
  refine (HC1.out _ HR1.out).mono ?_
  rintro e w2 ⟨rfl, hR, hgr⟩
  have HR2 := Lib.hid hR
  have HG2 := Lib.hid (World.grownBy.trans HG1.out hgr)
  clear hR hgr
  go_wp2_with fail
  go_ret2
  exact ⟨none, 0, rfl, own_nil _ _ HG2.out.size, HR2.out, HG2.out⟩
set_option maxRecDepth 100000 in
set_option maxHeartbeats 1000000 in
theorem body_7 (b : Nat) (st : St) (w : World) (h : Rdf w b st) (hs : st.1.size ≤ 4194304) (hk : (rI st).1 = 7) : Calls Try.prog 40 #[.pointer (some ⟨b, 0, none⟩)] w (BdPost w b (pbody 7 (rI st).2)) := by
  have HI := Lib.hid (int_any b st w h hs)
  have hz1 := rI_size st
  rw [hk] at HI
  clear h hk
  generalize (rI st).2 = s1 at *
  obtain ⟨x1, s2, h1⟩ : ∃ x s, rI s1 = (x, s) := ⟨_, _, rfl⟩
  have HC1 := Lib.hid (fun W h => int_any b s1 W h (by omega))
  rw [h1] at HC1
  have hz2 := rI_size s1
  rw [h1] at hz2
  simp only at hz2
  obtain ⟨x2, s3, h2⟩ : ∃ x s, rI s2 = (x, s) := ⟨_, _, rfl⟩
  have HC2 := Lib.hid (fun W h => int_any b s2 W h (by omega))
  rw [h2] at HC2
  have hz3 := rI_size s2
  rw [h2] at hz3
  simp only at hz3
  have HP : Hid (pbody 7 s1 = (⟨7, x1, x2, 0, ⟨#[]⟩, []⟩, s3)) := Lib.hid (by
    show (_, _) = _
    rw [h1]
    simp only
    rw [h2])
  rw [HP.out]
  clear h1 h2
  go_enter Try.func40, Try.ntmps40
  go_wp2_with fail
  refine HI.out.mono ?_
  rintro e w1 ⟨rfl, hR, hgr⟩
  have HR1 := Lib.hid hR
  have HG1 := Lib.hid hgr
  clear hR hgr
  go_wp2_with fail
  refine (HC1.out _ HR1.out).mono ?_
  rintro e w2 ⟨rfl, hR, hgr⟩
  have HR2 := Lib.hid hR
  have HG2 := Lib.hid (World.grownBy.trans HG1.out hgr)
  clear hR hgr
  go_wp2_with fail
  refine (HC2.out _ HR2.out).mono ?_
  rintro e w3 ⟨rfl, hR, hgr⟩
  have HR3 := Lib.hid hR
  have HG3 := Lib.hid (World.grownBy.trans HG2.out hgr)
  clear hR hgr
  go_wp2_with fail
  go_ret2
  exact ⟨none, 0, rfl, own_nil _ _ HG3.out.size, HR3.out, HG3.out⟩
set_option maxRecDepth 100000 in
set_option maxHeartbeats 1000000 in
theorem body_8 (b : Nat) (st : St) (w : World) (h : Rdf w b st) (hs : st.1.size ≤ 4194304) (hk : (rI st).1 = 8) : Calls Try.prog 40 #[.pointer (some ⟨b, 0, none⟩)] w (BdPost w b (pbody 8 (rI st).2)) := by
  have HI := Lib.hid (int_any b st w h hs)
  have hz1 := rI_size st
  rw [hk] at HI
  clear h hk
  generalize (rI st).2 = s1 at *
  obtain ⟨x1, s2, h1⟩ : ∃ x s, rI s1 = (x, s) := ⟨_, _, rfl⟩
  have HC1 := Lib.hid (fun W h => int_any b s1 W h (by omega))
  rw [h1] at HC1
  have hz2 := rI_size s1
  rw [h1] at hz2
  simp only at hz2
  have HP : Hid (pbody 8 s1 = (⟨8, x1, 0, 0, ⟨#[]⟩, []⟩, s2)) := Lib.hid (by
    show (_, _) = _
    rw [h1])
  rw [HP.out]
  clear h1
  go_enter Try.func40, Try.ntmps40
  go_wp2_with fail
  refine HI.out.mono ?_
  rintro e w1 ⟨rfl, hR, hgr⟩
  have HR1 := Lib.hid hR
  have HG1 := Lib.hid hgr
  clear hR hgr
  go_wp2_with fail
  refine (HC1.out _ HR1.out).mono ?_
  rintro e w2 ⟨rfl, hR, hgr⟩
  have HR2 := Lib.hid hR
  have HG2 := Lib.hid (World.grownBy.trans HG1.out hgr)
  clear hR hgr
  go_wp2_with fail
  go_ret2
  exact ⟨none, 0, rfl, own_nil _ _ HG2.out.size, HR2.out, HG2.out⟩
set_option maxRecDepth 100000 in
set_option maxHeartbeats 1000000 in
theorem body_9 (b : Nat) (st : St) (w : World) (h : Rdf w b st) (hs : st.1.size ≤ 4194304) (hk : (rI st).1 = 9) : Calls Try.prog 40 #[.pointer (some ⟨b, 0, none⟩)] w (BdPost w b (pbody 9 (rI st).2)) := by
  have HI := Lib.hid (int_any b st w h hs)
  have hz1 := rI_size st
  rw [hk] at HI
  clear h hk
  generalize (rI st).2 = s1 at *
  obtain ⟨x1, s2, h1⟩ : ∃ x s, rD s1 = (x, s) := ⟨_, _, rfl⟩
  have HC1 := Lib.hid (fun W h => rdata_any b s1 W h (by omega))
  rw [h1] at HC1
  have hz2 := rD_size s1
  rw [h1] at hz2
  simp only at hz2
  have HP : Hid (pbody 9 s1 = (⟨9, 0, 0, 0, x1, []⟩, s2)) := Lib.hid (by
    show (_, _) = _
    rw [h1])
  rw [HP.out]
  clear h1
  go_enter Try.func40, Try.ntmps40
  go_wp2_with fail
  refine HI.out.mono ?_
  rintro e w1 ⟨rfl, hR, hgr⟩
  have HR1 := Lib.hid hR
  have HG1 := Lib.hid hgr
  clear hR hgr
  go_wp2_with fail
  refine (HC1.out _ HR1.out).mono ?_
  rintro e w2 ⟨rfl, hR, hgr⟩
  have HR2 := Lib.hid hR
  have HG2 := Lib.hid (World.grownBy.trans HG1.out hgr)
  clear hR hgr
  go_wp2_with fail
  go_ret2
  exact ⟨none, 0, rfl, own_nil _ _ HG2.out.size, HR2.out, HG2.out⟩
set_option maxRecDepth 100000 in
set_option maxHeartbeats 1000000 in
theorem body_10 (b : Nat) (st : St) (w : World) (h : Rdf w b st) (hs : st.1.size ≤ 4194304) (hk : (rI st).1 = 10) : Calls Try.prog 40 #[.pointer (some ⟨b, 0, none⟩)] w (BdPost w b (pbody 10 (rI st).2)) := by
  have HI := Lib.hid (int_any b st w h hs)
  have hz1 := rI_size st
  rw [hk] at HI
  clear h hk
  generalize (rI st).2 = s1 at *
  obtain ⟨x1, s2, h1⟩ : ∃ x s, rI s1 = (x, s) := ⟨_, _, rfl⟩
  have HC1 := Lib.hid (fun W h => int_any b s1 W h (by omega))
  rw [h1] at HC1
  have hz2 := rI_size s1
  rw [h1] at hz2
  simp only at hz2
  have HP : Hid (pbody 10 s1 = (⟨10, x1, 0, 0, ⟨#[]⟩, []⟩, s2)) := Lib.hid (by
    show (_, _) = _
    rw [h1])
  rw [HP.out]
  clear h1
  go_enter Try.func40, Try.ntmps40
  go_wp2_with fail
  refine HI.out.mono ?_
  rintro e w1 ⟨rfl, hR, hgr⟩
  have HR1 := Lib.hid hR
  have HG1 := Lib.hid hgr
  clear hR hgr
  go_wp2_with fail
  refine (HC1.out _ HR1.out).mono ?_
  rintro e w2 ⟨rfl, hR, hgr⟩
  have HR2 := Lib.hid hR
  have HG2 := Lib.hid (World.grownBy.trans HG1.out hgr)
  clear hR hgr
  go_wp2_with fail
  go_ret2
  exact ⟨none, 0, rfl, own_nil _ _ HG2.out.size, HR2.out, HG2.out⟩
set_option maxRecDepth 100000 in
set_option maxHeartbeats 1000000 in
theorem body_no (b : Nat) (st : St) (w : World) (h : Rdf w b st) (hs : st.1.size ≤ 4194304) (hk : ¬ (0 ≤ (rI st).1 ∧ (rI st).1 ≤ 10)) : Calls Try.prog 40 #[.pointer (some ⟨b, 0, none⟩)] w (BdPost w b (pbody (rI st).1 (rI st).2)) := by
  have HI := Lib.hid (int_any b st w h hs)
  generalize rI st = p at *
  obtain ⟨k, s1⟩ := p
  simp only at hk HI ⊢
  have HP : Hid (pbody k s1 = (⟨k, 0, 0, 0, ⟨#[]⟩, []⟩, s1)) := Lib.hid (by
    unfold pbody
    rw [if_neg (by omega), if_neg (by omega), if_neg (by omega), if_neg (by omega), if_neg (by omega)])
  rw [HP.out]
  have HB := Lib.hid (bodyR_no (f := ⟨k, 0, 0, 0, ⟨#[]⟩, []⟩) (v := .slice none 0 0) hk)
  have e0 := bne_of (a := k) (b := 0) (by omega)
  have e1 := bne_of (a := k) (b := 1) (by omega)
  have e2 := bne_of (a := k) (b := 2) (by omega)
  have e3 := bne_of (a := k) (b := 3) (by omega)
  have e4 := bne_of (a := k) (b := 4) (by omega)
  have e5 := bne_of (a := k) (b := 5) (by omega)
  have e6 := bne_of (a := k) (b := 6) (by omega)
  have e7 := bne_of (a := k) (b := 7) (by omega)
  have e8 := bne_of (a := k) (b := 8) (by omega)
  have e9 := bne_of (a := k) (b := 9) (by omega)
  have e10 := bne_of (a := k) (b := 10) (by omega)
  clear hk h
  go_enter Try.func40, Try.ntmps40
  go_wp2_with fail
  refine HI.out.mono ?_
  rintro e w1 ⟨rfl, hR, hgr⟩
  have HR1 := Lib.hid hR
  have HG1 := Lib.hid hgr
  clear hR hgr
  go_wp2_with fail
  go_ret2
  exact ⟨none, 0, (congrArg Ending.returned HB.out).symm, own_nil _ _ HG1.out.size, HR1.out, HG1.out⟩
theorem body_any (b : Nat) (st : St) (w : World) (h : Rdf w b st) (hs : st.1.size ≤ 4194304) : Calls Try.prog 40 #[.pointer (some ⟨b, 0, none⟩)] w (BdPost w b (pbody (rI st).1 (rI st).2)) := by
  by_cases hk : 0 ≤ (rI st).1 ∧ (rI st).1 ≤ 10
  · have : (rI st).1 = 0 ∨ (rI st).1 = 1 ∨ (rI st).1 = 2 ∨ (rI st).1 = 3 ∨ (rI st).1 = 4 ∨ (rI st).1 = 5 ∨ (rI st).1 = 6 ∨ (rI st).1 = 7 ∨ (rI st).1 = 8 ∨ (rI st).1 = 9 ∨ (rI st).1 = 10 := by omega
    rcases this with e | e | e | e | e | e | e | e | e | e | e
    · rw [e]; exact body_0 b st w h hs e
    · rw [e]; exact body_1 b st w h hs e
    · rw [e]; exact body_2 b st w h hs e
    · rw [e]; exact body_3 b st w h hs e
    · rw [e]; exact body_4 b st w h hs e
    · rw [e]; exact body_5 b st w h hs e
    · rw [e]; exact body_6 b st w h hs e
    · rw [e]; exact body_7 b st w h hs e
    · rw [e]; exact body_8 b st w h hs e
    · rw [e]; exact body_9 b st w h hs e
    · rw [e]; exact body_10 b st w h hs e
  · exact body_no b st w h hs hk

theorem rL_len : ∀ (m : Nat) (z : Int) (st : St), (rL m z st).1.length = m
  | 0, _, _ => rfl
  | m + 1, z, st => by rw [rL_step]; simp only [List.length_cons]; rw [rL_len m]
theorem rR_len (st : St) : (rR st).1.length ≤ 16 := by
  unfold rR
  split
  · simp
  · rw [rL_len]; omega
theorem pbody_len (k : Int) (st : St) : (pbody k st).1.rs.length ≤ 16 := by
  unfold pbody
  split
  · exact rR_len _
  · repeat' split
    all_goals simp
theorem frm_far {w w' : World} {b : Nat} {vs : List Value} {row : Option Nat} (h : Frm w b vs) (ht : Thaw w b) (hlt : b < w.heap.size) (hg : w.grownBy w' row) (hne : some b ≠ row) : Frm w' b vs ∧ Thaw w' b :=
  ⟨fun i => (World.grownBy.cell_far hg ⟨b, i, none⟩ hlt hne).trans (h i), fun i => (World.grownBy.frozen_far hg ⟨b, i, none⟩ hlt hne).trans (ht i)⟩
theorem RC_lt {w' : World} {b : Nat} {v : Value} {vs : List Value} (h : Frm w' b (v :: vs)) : b < w'.heap.size := World.block_lt_of_cell? w' _ (h 0)
/-- What FrameDecode has made before it reads. -/
theorem fd_start (s : ByteArray) (w : World) : Hid (Frm ((w.alloc (.cells #[.int .i64 0, .int .i64 0, .int .i64 0, .int .i64 0, .string ⟨#[]⟩, .slice none 0 0] 29)).alloc (.cells #[.string s, .bool false] 61)) w.heap.size [.int .i64 0, .int .i64 0, .int .i64 0, .int .i64 0, .string ⟨#[]⟩, .slice none 0 0] ∧ Thaw ((w.alloc (.cells #[.int .i64 0, .int .i64 0, .int .i64 0, .int .i64 0, .string ⟨#[]⟩, .slice none 0 0] 29)).alloc (.cells #[.string s, .bool false] 61)) w.heap.size ∧ Rdf ((w.alloc (.cells #[.int .i64 0, .int .i64 0, .int .i64 0, .int .i64 0, .string ⟨#[]⟩, .slice none 0 0] 29)).alloc (.cells #[.string s, .bool false] 61)) (w.heap.size + 1) (s, false) ∧ Below w.heap.size w ((w.alloc (.cells #[.int .i64 0, .int .i64 0, .int .i64 0, .int .i64 0, .string ⟨#[]⟩, .slice none 0 0] 29)).alloc (.cells #[.string s, .bool false] 61)) ∧ ((w.alloc (.cells #[.int .i64 0, .int .i64 0, .int .i64 0, .int .i64 0, .string ⟨#[]⟩, .slice none 0 0] 29)).alloc (.cells #[.string s, .bool false] 61)).heap.size = w.heap.size + 2) := by
  have hsz : (w.alloc (.cells #[.int .i64 0, .int .i64 0, .int .i64 0, .int .i64 0, .string ⟨#[]⟩, .slice none 0 0] 29)).heap.size = w.heap.size + 1 := by simp
  have hb : Below (w.alloc (.cells #[.int .i64 0, .int .i64 0, .int .i64 0, .int .i64 0, .string ⟨#[]⟩, .slice none 0 0] 29)).heap.size (w.alloc (.cells #[.int .i64 0, .int .i64 0, .int .i64 0, .int .i64 0, .string ⟨#[]⟩, .slice none 0 0] 29)) ((w.alloc (.cells #[.int .i64 0, .int .i64 0, .int .i64 0, .int .i64 0, .string ⟨#[]⟩, .slice none 0 0] 29)).alloc (.cells #[.string s, .bool false] 61)) := (Below.refl _ _).alloc (Nat.le_refl _) _
  have h1 := Frm.new w 29 [.int .i64 0, .int .i64 0, .int .i64 0, .int .i64 0, .string ⟨#[]⟩, .slice none 0 0]
  have h2 := Thaw.new w 29 [.int .i64 0, .int .i64 0, .int .i64 0, .int .i64 0, .string ⟨#[]⟩, .slice none 0 0]
  have h3 := Frm.new (w.alloc (.cells #[.int .i64 0, .int .i64 0, .int .i64 0, .int .i64 0, .string ⟨#[]⟩, .slice none 0 0] 29)) 61 [.string s, .bool false]
  have h4 := Thaw.new (w.alloc (.cells #[.int .i64 0, .int .i64 0, .int .i64 0, .int .i64 0, .string ⟨#[]⟩, .slice none 0 0] 29)) 61 [.string s, .bool false]
  rw [hsz] at h3 h4
  exact Lib.hid ⟨h1.below hb (by omega), h2.below hb (by omega), ⟨h3, h4⟩, ((Below.refl _ _).alloc (Nat.le_refl _) _).trans (hb.mono (by omega)), by simp⟩

set_option maxRecDepth 100000 in
set_option maxHeartbeats 2000000 in
theorem fd_no (s : ByteArray) (w : World) (hs : s.size ≤ 4194304) (f : Fr) (st' : St) (HPD : Hid (pd s = (f, st'))) (HK : Hid (¬ (0 ≤ f.k ∧ f.k ≤ 10))) (HN : Hid (dec4 s = none)) : Calls Try.prog 17 #[.string s] w (FdPost w (dec4 s)) := by
  have HST := fd_start s w
  have HBD := Lib.hid (fun W h => body_any (w.heap.size + 1) (s, false) W h hs)
  rw [show pbody (rI (s, false)).1 (rI (s, false)).2 = (f, st') from HPD.out] at HBD
  unfold BdPost at HBD
  go_enter Try.func17, Try.ntmps17
  go_wp2_with fail
  generalize (w.alloc (.cells #[.int .i64 0, .int .i64 0, .int .i64 0, .int .i64 0, .string ⟨#[]⟩, .slice none 0 0] 29)).alloc (.cells #[.string s, .bool false] 61) = W0 at *
  obtain ⟨q1, q2, q3, q4, q5⟩ := HST.out
  refine (HBD.out _ q3).mono ?_
  rintro e w1 ⟨a, c, he, hO, hR, hg⟩
  subst he
  simp only at hO hR ⊢
  obtain ⟨f1, f2⟩ := frm_far q1 q2 (by omega) hg (by simp)
  have RC := Lib.hid f1
  have RT := Lib.hid f2
  have HB1 : Hid (Below w.heap.size w w1) := Lib.hid (q4.grown hg q4.size (fun k hk => by injection hk with hk; omega))
  have HR1 := Lib.hid hR
  have HO1 := Lib.hid (OwnRg.lower hO (B' := w.heap.size) (by omega))
  rw [bodyR_no HK.out]
  clear q1 q2 q3 q4 q5 f1 f2 hO hR hg
  obtain ⟨r0, r1, r2, r3, r4, r5⟩ : w1.cell? ⟨w.heap.size, 0, none⟩ = some (.int .i64 0) ∧ w1.cell? ⟨w.heap.size, 1, none⟩ = some (.int .i64 0) ∧ w1.cell? ⟨w.heap.size, 2, none⟩ = some (.int .i64 0) ∧ w1.cell? ⟨w.heap.size, 3, none⟩ = some (.int .i64 0) ∧ w1.cell? ⟨w.heap.size, 4, none⟩ = some (.string ⟨#[]⟩) ∧ w1.cell? ⟨w.heap.size, 5, none⟩ = some (.slice none 0 0) := ⟨RC.out 0, RC.out 1, RC.out 2, RC.out 3, RC.out 4, RC.out 5⟩
  obtain ⟨t0, t1, t2, t3, t4, t5⟩ : w1.frozen? ⟨w.heap.size, 0, none⟩ = false ∧ w1.frozen? ⟨w.heap.size, 1, none⟩ = false ∧ w1.frozen? ⟨w.heap.size, 2, none⟩ = false ∧ w1.frozen? ⟨w.heap.size, 3, none⟩ = false ∧ w1.frozen? ⟨w.heap.size, 4, none⟩ = false ∧ w1.frozen? ⟨w.heap.size, 5, none⟩ = false := ⟨RT.out 0, RT.out 1, RT.out 2, RT.out 3, RT.out 4, RT.out 5⟩
  have RC6 : Hid (Frm ((((((w1.setCell ⟨w.heap.size, 0, none⟩ (.int .i64 0)).setCell ⟨w.heap.size, 1, none⟩ (.int .i64 0)).setCell ⟨w.heap.size, 2, none⟩ (.int .i64 0)).setCell ⟨w.heap.size, 3, none⟩ (.int .i64 0)).setCell ⟨w.heap.size, 4, none⟩ (.string ⟨#[]⟩)).setCell ⟨w.heap.size, 5, none⟩ (.slice none 0 0)) w.heap.size [.int .i64 0, .int .i64 0, .int .i64 0, .int .i64 0, .string ⟨#[]⟩, .slice none 0 0]) := Lib.hid ((((((RC.out.set (i := 0) (by simp) (.int .i64 0)).set (i := 1) (by simp) (.int .i64 0)).set (i := 2) (by simp) (.int .i64 0)).set (i := 3) (by simp) (.int .i64 0)).set (i := 4) (by simp) (.string ⟨#[]⟩)).set (i := 5) (by simp) (.slice none 0 0))
  have B6 : Hid (Below w.heap.size w ((((((w1.setCell ⟨w.heap.size, 0, none⟩ (.int .i64 0)).setCell ⟨w.heap.size, 1, none⟩ (.int .i64 0)).setCell ⟨w.heap.size, 2, none⟩ (.int .i64 0)).setCell ⟨w.heap.size, 3, none⟩ (.int .i64 0)).setCell ⟨w.heap.size, 4, none⟩ (.string ⟨#[]⟩)).setCell ⟨w.heap.size, 5, none⟩ (.slice none 0 0))) := Lib.hid (Below.setCell (Below.setCell (Below.setCell (Below.setCell (Below.setCell (Below.setCell HB1.out (Nat.le_refl _) _) (Nat.le_refl _) _) (Nat.le_refl _) _) (Nat.le_refl _) _) (Nat.le_refl _) _) (Nat.le_refl _) _)
  go_wp2_with fail
  generalize ((((((w1.setCell ⟨w.heap.size, 0, none⟩ (.int .i64 0)).setCell ⟨w.heap.size, 1, none⟩ (.int .i64 0)).setCell ⟨w.heap.size, 2, none⟩ (.int .i64 0)).setCell ⟨w.heap.size, 3, none⟩ (.int .i64 0)).setCell ⟨w.heap.size, 4, none⟩ (.string ⟨#[]⟩)).setCell ⟨w.heap.size, 5, none⟩ (.slice none 0 0)) = W6 at *
  obtain ⟨s0, s1, s2, s3, s4, s5⟩ : W6.cell? ⟨w.heap.size, 0, none⟩ = some (.int .i64 0) ∧ W6.cell? ⟨w.heap.size, 1, none⟩ = some (.int .i64 0) ∧ W6.cell? ⟨w.heap.size, 2, none⟩ = some (.int .i64 0) ∧ W6.cell? ⟨w.heap.size, 3, none⟩ = some (.int .i64 0) ∧ W6.cell? ⟨w.heap.size, 4, none⟩ = some (.string ⟨#[]⟩) ∧ W6.cell? ⟨w.heap.size, 5, none⟩ = some (.slice none 0 0) := ⟨RC6.out 0, RC6.out 1, RC6.out 2, RC6.out 3, RC6.out 4, RC6.out 5⟩
  refine bodyPost_ret (v := .tuple #[frV ⟨0, 0, 0, 0, ⟨#[]⟩, []⟩ (.slice none 0 0), .int .i64 0, .bool false]) ?hr rfl ?_
  case hr => rw [results_cell_tmp2 rfl]; unfold frV; go_simp
  exact .inl ⟨HN.out, none, 0, rfl, B6.out, own_nil _ _ B6.out.size⟩
set_option maxRecDepth 100000 in
set_option maxHeartbeats 2000000 in
theorem fd_bad (s : ByteArray) (w : World) (hs : s.size ≤ 4194304) (f : Fr) (st' : St) (HPD : Hid (pd s = (f, st'))) (HK : Hid (0 ≤ f.k ∧ f.k ≤ 10)) (HF : Hid (st'.2 = true)) (HN : Hid (dec4 s = none)) : Calls Try.prog 17 #[.string s] w (FdPost w (dec4 s)) := by
  have HST := fd_start s w
  have HBD := Lib.hid (fun W h => body_any (w.heap.size + 1) (s, false) W h hs)
  rw [show pbody (rI (s, false)).1 (rI (s, false)).2 = (f, st') from HPD.out] at HBD
  unfold BdPost at HBD
  go_enter Try.func17, Try.ntmps17
  go_wp2_with fail
  generalize (w.alloc (.cells #[.int .i64 0, .int .i64 0, .int .i64 0, .int .i64 0, .string ⟨#[]⟩, .slice none 0 0] 29)).alloc (.cells #[.string s, .bool false] 61) = W0 at *
  obtain ⟨q1, q2, q3, q4, q5⟩ := HST.out
  refine (HBD.out _ q3).mono ?_
  rintro e w1 ⟨a, c, he, hO, hR, hg⟩
  subst he
  simp only at hO hR ⊢
  obtain ⟨f1, f2⟩ := frm_far q1 q2 (by omega) hg (by simp)
  have RC := Lib.hid f1
  have RT := Lib.hid f2
  have HB1 : Hid (Below w.heap.size w w1) := Lib.hid (q4.grown hg q4.size (fun k hk => by injection hk with hk; omega))
  have HR1 := Lib.hid hR
  have HO1 := Lib.hid (OwnRg.lower hO (B' := w.heap.size) (by omega))
  rw [bodyR_yes HK.out]
  unfold bodyV
  have d1 : w1.cell? ⟨w.heap.size + 1, 1, none⟩ = some (.bool true) := by have := hR.1 1; rw [HF.out] at this; exact this
  generalize bodyX f.k f.a f.b f.c f.d (.slice a f.rs.length c) = x at *
  generalize bodyT f.k = T at *
  clear q1 q2 q3 q4 q5 f1 f2 hO hR hg
  obtain ⟨r0, r1, r2, r3, r4, r5⟩ : w1.cell? ⟨w.heap.size, 0, none⟩ = some (.int .i64 0) ∧ w1.cell? ⟨w.heap.size, 1, none⟩ = some (.int .i64 0) ∧ w1.cell? ⟨w.heap.size, 2, none⟩ = some (.int .i64 0) ∧ w1.cell? ⟨w.heap.size, 3, none⟩ = some (.int .i64 0) ∧ w1.cell? ⟨w.heap.size, 4, none⟩ = some (.string ⟨#[]⟩) ∧ w1.cell? ⟨w.heap.size, 5, none⟩ = some (.slice none 0 0) := ⟨RC.out 0, RC.out 1, RC.out 2, RC.out 3, RC.out 4, RC.out 5⟩
  obtain ⟨t0, t1, t2, t3, t4, t5⟩ : w1.frozen? ⟨w.heap.size, 0, none⟩ = false ∧ w1.frozen? ⟨w.heap.size, 1, none⟩ = false ∧ w1.frozen? ⟨w.heap.size, 2, none⟩ = false ∧ w1.frozen? ⟨w.heap.size, 3, none⟩ = false ∧ w1.frozen? ⟨w.heap.size, 4, none⟩ = false ∧ w1.frozen? ⟨w.heap.size, 5, none⟩ = false := ⟨RT.out 0, RT.out 1, RT.out 2, RT.out 3, RT.out 4, RT.out 5⟩
  have RC6 : Hid (Frm ((((((w1.setCell ⟨w.heap.size, 0, none⟩ (.int .i64 0)).setCell ⟨w.heap.size, 1, none⟩ (.int .i64 0)).setCell ⟨w.heap.size, 2, none⟩ (.int .i64 0)).setCell ⟨w.heap.size, 3, none⟩ (.int .i64 0)).setCell ⟨w.heap.size, 4, none⟩ (.string ⟨#[]⟩)).setCell ⟨w.heap.size, 5, none⟩ (.slice none 0 0)) w.heap.size [.int .i64 0, .int .i64 0, .int .i64 0, .int .i64 0, .string ⟨#[]⟩, .slice none 0 0]) := Lib.hid ((((((RC.out.set (i := 0) (by simp) (.int .i64 0)).set (i := 1) (by simp) (.int .i64 0)).set (i := 2) (by simp) (.int .i64 0)).set (i := 3) (by simp) (.int .i64 0)).set (i := 4) (by simp) (.string ⟨#[]⟩)).set (i := 5) (by simp) (.slice none 0 0))
  have B6 : Hid (Below w.heap.size w ((((((w1.setCell ⟨w.heap.size, 0, none⟩ (.int .i64 0)).setCell ⟨w.heap.size, 1, none⟩ (.int .i64 0)).setCell ⟨w.heap.size, 2, none⟩ (.int .i64 0)).setCell ⟨w.heap.size, 3, none⟩ (.int .i64 0)).setCell ⟨w.heap.size, 4, none⟩ (.string ⟨#[]⟩)).setCell ⟨w.heap.size, 5, none⟩ (.slice none 0 0))) := Lib.hid (Below.setCell (Below.setCell (Below.setCell (Below.setCell (Below.setCell (Below.setCell HB1.out (Nat.le_refl _) _) (Nat.le_refl _) _) (Nat.le_refl _) _) (Nat.le_refl _) _) (Nat.le_refl _) _) (Nat.le_refl _) _)
  go_wp2_with fail
  generalize ((((((w1.setCell ⟨w.heap.size, 0, none⟩ (.int .i64 0)).setCell ⟨w.heap.size, 1, none⟩ (.int .i64 0)).setCell ⟨w.heap.size, 2, none⟩ (.int .i64 0)).setCell ⟨w.heap.size, 3, none⟩ (.int .i64 0)).setCell ⟨w.heap.size, 4, none⟩ (.string ⟨#[]⟩)).setCell ⟨w.heap.size, 5, none⟩ (.slice none 0 0)) = W6 at *
  obtain ⟨s0, s1, s2, s3, s4, s5⟩ : W6.cell? ⟨w.heap.size, 0, none⟩ = some (.int .i64 0) ∧ W6.cell? ⟨w.heap.size, 1, none⟩ = some (.int .i64 0) ∧ W6.cell? ⟨w.heap.size, 2, none⟩ = some (.int .i64 0) ∧ W6.cell? ⟨w.heap.size, 3, none⟩ = some (.int .i64 0) ∧ W6.cell? ⟨w.heap.size, 4, none⟩ = some (.string ⟨#[]⟩) ∧ W6.cell? ⟨w.heap.size, 5, none⟩ = some (.slice none 0 0) := ⟨RC6.out 0, RC6.out 1, RC6.out 2, RC6.out 3, RC6.out 4, RC6.out 5⟩
  refine bodyPost_ret (v := .tuple #[frV ⟨0, 0, 0, 0, ⟨#[]⟩, []⟩ (.slice none 0 0), .int .i64 0, .bool false]) ?hr rfl ?_
  case hr => rw [results_cell_tmp2 rfl]; unfold frV; go_simp
  exact .inl ⟨HN.out, none, 0, rfl, B6.out, own_nil _ _ B6.out.size⟩
set_option maxRecDepth 100000 in
set_option maxHeartbeats 2000000 in
theorem fd_out (s : ByteArray) (w : World) (hs : s.size ≤ 4194304) (f : Fr) (st' : St) (HPD : Hid (pd s = (f, st'))) (hl : f.rs.length ≤ 1048576) (HK : Hid (0 ≤ f.k ∧ f.k ≤ 10)) (HF : Hid (st'.2 = false)) (HQ : Hid (finr f = false)) (HN : Hid (dec4 s = none)) : Calls Try.prog 17 #[.string s] w (FdPost w (dec4 s)) := by
  have HST := fd_start s w
  have HBD := Lib.hid (fun W h => body_any (w.heap.size + 1) (s, false) W h hs)
  rw [show pbody (rI (s, false)).1 (rI (s, false)).2 = (f, st') from HPD.out] at HBD
  unfold BdPost at HBD
  go_enter Try.func17, Try.ntmps17
  go_wp2_with fail
  generalize (w.alloc (.cells #[.int .i64 0, .int .i64 0, .int .i64 0, .int .i64 0, .string ⟨#[]⟩, .slice none 0 0] 29)).alloc (.cells #[.string s, .bool false] 61) = W0 at *
  obtain ⟨q1, q2, q3, q4, q5⟩ := HST.out
  refine (HBD.out _ q3).mono ?_
  rintro e w1 ⟨a, c, he, hO, hR, hg⟩
  subst he
  simp only at hO hR ⊢
  obtain ⟨f1, f2⟩ := frm_far q1 q2 (by omega) hg (by simp)
  have RC := Lib.hid f1
  have RT := Lib.hid f2
  have HB1 : Hid (Below w.heap.size w w1) := Lib.hid (q4.grown hg q4.size (fun k hk => by injection hk with hk; omega))
  have HR1 := Lib.hid hR
  have HO1 := Lib.hid (OwnRg.lower hO (B' := w.heap.size) (by omega))
  rw [bodyR_yes HK.out]
  have hRg := Lib.hid (Rngs.of_own hO)
  have HBO := Lib.hid (bod_any f a c w1 hRg hl HK.out)
  unfold bodyV
  have d0 : w1.cell? ⟨w.heap.size + 1, 0, none⟩ = some (.string st'.1) := hR.1 0
  have d1 : w1.cell? ⟨w.heap.size + 1, 1, none⟩ = some (.bool false) := by have := hR.1 1; rw [HF.out] at this; exact this
  generalize bodyX f.k f.a f.b f.c f.d (.slice a f.rs.length c) = x at *
  generalize bodyT f.k = T at *
  rw [HQ.out] at HBO
  obtain ⟨ff, fi, m1, m2, n1, n2, c1, c2⟩ := HBO.out
  have C2 := Lib.hid (c2 w1 (Below.refl _ _))
  clear c1 c2 q1 q2 q3 q4 f1 f2 hO hR hg
  have hlt1 : w.heap.size < w1.heap.size := RC_lt RC.out
  go_wp2_with fail
  refine C2.out.mono ?_
  rintro e w2 ⟨rfl, hb2⟩
  have HB2 : Hid (Below w.heap.size w w2) := Lib.hid (HB1.out.trans (hb2.mono HB1.out.size))
  have RC2 := Lib.hid (Frm.below RC.out hb2 hlt1)
  have RT2 := Lib.hid (Thaw.below RT.out hb2 hlt1)
  clear hb2 RC RT
  have RC := RC2
  have RT := RT2
  obtain ⟨r0, r1, r2, r3, r4, r5⟩ : w2.cell? ⟨w.heap.size, 0, none⟩ = some (.int .i64 0) ∧ w2.cell? ⟨w.heap.size, 1, none⟩ = some (.int .i64 0) ∧ w2.cell? ⟨w.heap.size, 2, none⟩ = some (.int .i64 0) ∧ w2.cell? ⟨w.heap.size, 3, none⟩ = some (.int .i64 0) ∧ w2.cell? ⟨w.heap.size, 4, none⟩ = some (.string ⟨#[]⟩) ∧ w2.cell? ⟨w.heap.size, 5, none⟩ = some (.slice none 0 0) := ⟨RC.out 0, RC.out 1, RC.out 2, RC.out 3, RC.out 4, RC.out 5⟩
  obtain ⟨t0, t1, t2, t3, t4, t5⟩ : w2.frozen? ⟨w.heap.size, 0, none⟩ = false ∧ w2.frozen? ⟨w.heap.size, 1, none⟩ = false ∧ w2.frozen? ⟨w.heap.size, 2, none⟩ = false ∧ w2.frozen? ⟨w.heap.size, 3, none⟩ = false ∧ w2.frozen? ⟨w.heap.size, 4, none⟩ = false ∧ w2.frozen? ⟨w.heap.size, 5, none⟩ = false := ⟨RT.out 0, RT.out 1, RT.out 2, RT.out 3, RT.out 4, RT.out 5⟩
  have RC6 : Hid (Frm ((((((w2.setCell ⟨w.heap.size, 0, none⟩ (.int .i64 0)).setCell ⟨w.heap.size, 1, none⟩ (.int .i64 0)).setCell ⟨w.heap.size, 2, none⟩ (.int .i64 0)).setCell ⟨w.heap.size, 3, none⟩ (.int .i64 0)).setCell ⟨w.heap.size, 4, none⟩ (.string ⟨#[]⟩)).setCell ⟨w.heap.size, 5, none⟩ (.slice none 0 0)) w.heap.size [.int .i64 0, .int .i64 0, .int .i64 0, .int .i64 0, .string ⟨#[]⟩, .slice none 0 0]) := Lib.hid ((((((RC.out.set (i := 0) (by simp) (.int .i64 0)).set (i := 1) (by simp) (.int .i64 0)).set (i := 2) (by simp) (.int .i64 0)).set (i := 3) (by simp) (.int .i64 0)).set (i := 4) (by simp) (.string ⟨#[]⟩)).set (i := 5) (by simp) (.slice none 0 0))
  have B6 : Hid (Below w.heap.size w ((((((w2.setCell ⟨w.heap.size, 0, none⟩ (.int .i64 0)).setCell ⟨w.heap.size, 1, none⟩ (.int .i64 0)).setCell ⟨w.heap.size, 2, none⟩ (.int .i64 0)).setCell ⟨w.heap.size, 3, none⟩ (.int .i64 0)).setCell ⟨w.heap.size, 4, none⟩ (.string ⟨#[]⟩)).setCell ⟨w.heap.size, 5, none⟩ (.slice none 0 0))) := Lib.hid (Below.setCell (Below.setCell (Below.setCell (Below.setCell (Below.setCell (Below.setCell HB2.out (Nat.le_refl _) _) (Nat.le_refl _) _) (Nat.le_refl _) _) (Nat.le_refl _) _) (Nat.le_refl _) _) (Nat.le_refl _) _)
  go_wp2_with fail
  generalize ((((((w2.setCell ⟨w.heap.size, 0, none⟩ (.int .i64 0)).setCell ⟨w.heap.size, 1, none⟩ (.int .i64 0)).setCell ⟨w.heap.size, 2, none⟩ (.int .i64 0)).setCell ⟨w.heap.size, 3, none⟩ (.int .i64 0)).setCell ⟨w.heap.size, 4, none⟩ (.string ⟨#[]⟩)).setCell ⟨w.heap.size, 5, none⟩ (.slice none 0 0)) = W6 at *
  obtain ⟨s0, s1, s2, s3, s4, s5⟩ : W6.cell? ⟨w.heap.size, 0, none⟩ = some (.int .i64 0) ∧ W6.cell? ⟨w.heap.size, 1, none⟩ = some (.int .i64 0) ∧ W6.cell? ⟨w.heap.size, 2, none⟩ = some (.int .i64 0) ∧ W6.cell? ⟨w.heap.size, 3, none⟩ = some (.int .i64 0) ∧ W6.cell? ⟨w.heap.size, 4, none⟩ = some (.string ⟨#[]⟩) ∧ W6.cell? ⟨w.heap.size, 5, none⟩ = some (.slice none 0 0) := ⟨RC6.out 0, RC6.out 1, RC6.out 2, RC6.out 3, RC6.out 4, RC6.out 5⟩
  refine bodyPost_ret (v := .tuple #[frV ⟨0, 0, 0, 0, ⟨#[]⟩, []⟩ (.slice none 0 0), .int .i64 0, .bool false]) ?hr rfl ?_
  case hr => rw [results_cell_tmp2 rfl]; unfold frV; go_simp
  exact .inl ⟨HN.out, none, 0, rfl, B6.out, own_nil _ _ B6.out.size⟩
theorem far6 {W : World} {b b' i : Nat} {v0 v1 v2 v3 v4 v5 : Value} (h : b ≠ b') : ((((((W.setCell ⟨b, 0, none⟩ v0).setCell ⟨b, 1, none⟩ v1).setCell ⟨b, 2, none⟩ v2).setCell ⟨b, 3, none⟩ v3).setCell ⟨b, 4, none⟩ v4).setCell ⟨b, 5, none⟩ v5).cell? ⟨b', i, none⟩ = W.cell? ⟨b', i, none⟩ := by
  rw [World.cell?_setCell_far _ _ _ _ h, World.cell?_setCell_far _ _ _ _ h, World.cell?_setCell_far _ _ _ _ h, World.cell?_setCell_far _ _ _ _ h, World.cell?_setCell_far _ _ _ _ h, World.cell?_setCell_far _ _ _ _ h]
theorem vnorm_own {w : World} {B : Nat} {f : Fr} {a : Option Addr} {c : Nat} (hn : fnorm f = f) (h : OwnRg w B (.slice a f.rs.length c) f.rs) (hB : B ≤ w.heap.size) : ∃ ua uc, vnorm f.k (.slice a f.rs.length c) = .slice ua f.rs.length uc ∧ OwnRg w B (.slice ua f.rs.length uc) f.rs := by
  unfold vnorm
  by_cases h2 : f.k = 2
  · rw [if_pos h2]; exact ⟨a, c, rfl, h⟩
  · rw [if_neg h2]
    have hr : f.rs = [] := by
      have := congrArg Fr.rs hn
      unfold fnorm at this
      simp only [if_neg h2] at this
      exact this.symm
    rw [hr]
    exact ⟨none, 0, rfl, own_nil _ _ hB⟩
/-- What the last store leaves. -/
theorem fd_end {w w3 : World} {f : Fr} {ua : Option Addr} {uc : Nat} {B : Nat} (RC3 : Frm w3 w.heap.size [.int .i64 0, .int .i64 0, .int .i64 0, .int .i64 0, .string ⟨#[]⟩, .slice none 0 0]) (HB3 : Below w.heap.size w w3) (HO3 : OwnRg w3 B (.slice ua f.rs.length uc) f.rs) (hB : w.heap.size < B) : Hid (Frm ((((((w3.setCell ⟨w.heap.size, 0, none⟩ (.int .i64 f.k)).setCell ⟨w.heap.size, 1, none⟩ (.int .i64 f.a)).setCell ⟨w.heap.size, 2, none⟩ (.int .i64 f.b)).setCell ⟨w.heap.size, 3, none⟩ (.int .i64 f.c)).setCell ⟨w.heap.size, 4, none⟩ (.string f.d)).setCell ⟨w.heap.size, 5, none⟩ (.slice ua f.rs.length uc)) w.heap.size [.int .i64 f.k, .int .i64 f.a, .int .i64 f.b, .int .i64 f.c, .string f.d, .slice ua f.rs.length uc] ∧ Below w.heap.size w ((((((w3.setCell ⟨w.heap.size, 0, none⟩ (.int .i64 f.k)).setCell ⟨w.heap.size, 1, none⟩ (.int .i64 f.a)).setCell ⟨w.heap.size, 2, none⟩ (.int .i64 f.b)).setCell ⟨w.heap.size, 3, none⟩ (.int .i64 f.c)).setCell ⟨w.heap.size, 4, none⟩ (.string f.d)).setCell ⟨w.heap.size, 5, none⟩ (.slice ua f.rs.length uc)) ∧ OwnRg ((((((w3.setCell ⟨w.heap.size, 0, none⟩ (.int .i64 f.k)).setCell ⟨w.heap.size, 1, none⟩ (.int .i64 f.a)).setCell ⟨w.heap.size, 2, none⟩ (.int .i64 f.b)).setCell ⟨w.heap.size, 3, none⟩ (.int .i64 f.c)).setCell ⟨w.heap.size, 4, none⟩ (.string f.d)).setCell ⟨w.heap.size, 5, none⟩ (.slice ua f.rs.length uc)) w.heap.size (.slice ua f.rs.length uc) f.rs) := by
  have hne : ∀ x, (Value.slice ua f.rs.length uc).ownBlock = some x → w.heap.size ≠ x := fun x hx => by have := (World.ownsRow.lt HO3 x hx).1; omega
  exact Lib.hid ⟨((((((RC3.set (i := 0) (by simp) (.int .i64 f.k)).set (i := 1) (by simp) (.int .i64 f.a)).set (i := 2) (by simp) (.int .i64 f.b)).set (i := 3) (by simp) (.int .i64 f.c)).set (i := 4) (by simp) (.string f.d)).set (i := 5) (by simp) (.slice ua f.rs.length uc)), Below.setCell (Below.setCell (Below.setCell (Below.setCell (Below.setCell (Below.setCell HB3 (Nat.le_refl _) _) (Nat.le_refl _) _) (Nat.le_refl _) _) (Nat.le_refl _) _) (Nat.le_refl _) _) (Nat.le_refl _) _, own_far (own_far (own_far (own_far (own_far (own_far (OwnRg.lower HO3 (by omega)) hne) hne) hne) hne) hne) hne⟩

set_option maxRecDepth 100000 in
set_option maxHeartbeats 2000000 in
theorem fd_yes (s : ByteArray) (w : World) (hs : s.size ≤ 4194304) (f : Fr) (st' : St) (HPD : Hid (pd s = (f, st'))) (hsz : st'.1.size ≤ s.size) (HNF : Hid (fnorm f = f)) (hl : f.rs.length ≤ 1048576) (HK : Hid (0 ≤ f.k ∧ f.k ≤ 10)) (HF : Hid (st'.2 = false)) (HQ : Hid (finr f = true)) (HN : Hid (dec4 s = some (f, s.size - st'.1.size))) : Calls Try.prog 17 #[.string s] w (FdPost w (dec4 s)) := by
  have HST := fd_start s w
  have HBD := Lib.hid (fun W h => body_any (w.heap.size + 1) (s, false) W h hs)
  rw [show pbody (rI (s, false)).1 (rI (s, false)).2 = (f, st') from HPD.out] at HBD
  unfold BdPost at HBD
  go_enter Try.func17, Try.ntmps17
  go_wp2_with fail
  generalize (w.alloc (.cells #[.int .i64 0, .int .i64 0, .int .i64 0, .int .i64 0, .string ⟨#[]⟩, .slice none 0 0] 29)).alloc (.cells #[.string s, .bool false] 61) = W0 at *
  obtain ⟨q1, q2, q3, q4, q5⟩ := HST.out
  refine (HBD.out _ q3).mono ?_
  rintro e w1 ⟨a, c, he, hO, hR, hg⟩
  subst he
  simp only at hO hR ⊢
  obtain ⟨f1, f2⟩ := frm_far q1 q2 (by omega) hg (by simp)
  have RC := Lib.hid f1
  have RT := Lib.hid f2
  have HB1 : Hid (Below w.heap.size w w1) := Lib.hid (q4.grown hg q4.size (fun k hk => by injection hk with hk; omega))
  have HR1 := Lib.hid hR
  rw [bodyR_yes HK.out]
  have hRg := Lib.hid (Rngs.of_own hO)
  have HBO := Lib.hid (bod_any f a c w1 hRg hl HK.out)
  unfold bodyV
  have d0 : w1.cell? ⟨w.heap.size + 1, 0, none⟩ = some (.string st'.1) := hR.1 0
  have d1 : w1.cell? ⟨w.heap.size + 1, 1, none⟩ = some (.bool false) := by have := hR.1 1; rw [HF.out] at this; exact this
  generalize bodyX f.k f.a f.b f.c f.d (.slice a f.rs.length c) = x at *
  generalize bodyT f.k = T at *
  rw [HQ.out] at HBO
  obtain ⟨ua, uc, hu, hOu⟩ := vnorm_own HNF.out hO hg.size
  rw [hu, HNF.out] at HBO
  obtain ⟨ff, fi, m1, m2, n1, n2, c1, c2⟩ := HBO.out
  unfold frV at c1
  have C1 := Lib.hid c1
  have C2 := Lib.hid (c2 w1 (Below.refl _ _))
  have HOU := Lib.hid hOu
  have hbase : w.heap.size < W0.heap.size := by omega
  clear c1 c2 q1 q2 q3 q4 q5 f1 f2 hO hg hu hOu
  have hlt1 : w.heap.size < w1.heap.size := RC_lt RC.out
  have hltR : w.heap.size + 1 < w1.heap.size := hR.lt
  clear hR
  go_wp2_with fail
  refine C2.out.mono ?_
  rintro e w2 ⟨rfl, hb2⟩
  have HB2 : Hid (Below w.heap.size w w2.drew) := Lib.hid ((HB1.out.trans (hb2.mono HB1.out.size)).drew)
  have RC2 : Hid (Frm w2.drew w.heap.size [.int .i64 0, .int .i64 0, .int .i64 0, .int .i64 0, .string ⟨#[]⟩, .slice none 0 0]) := Lib.hid (Frm.below RC.out hb2.drew hlt1)
  have RT2 : Hid (Thaw w2.drew w.heap.size) := Lib.hid (Thaw.below RT.out hb2.drew hlt1)
  have HOU2 : Hid (OwnRg w2.drew W0.heap.size (.slice ua f.rs.length uc) f.rs) := Lib.hid (own_below HOU.out hb2.drew)
  have d0' : w2.cell? ⟨w.heap.size + 1, 0, none⟩ = some (.string st'.1) := (hb2.cell hltR).trans d0
  have hs2 : w1.heap.size ≤ w2.drew.heap.size := hb2.size
  have D0 : Hid (w2.drew.cell? ⟨w.heap.size + 1, 0, none⟩ = some (.string st'.1)) := Lib.hid d0'
  have v1 : IntKind.i64.wrap ((s.size : Int) - (st'.1.size : Int)) = ((s.size - st'.1.size : Nat) : Int) := by rw [IntWalk.i64_in _ (by omega)]; omega
  clear hb2 d0 d1
  have hR0 : ¬ w.heap.size = w.heap.size + 1 := by omega
  have hR1 : ¬ w.heap.size + 1 = w.heap.size := by omega
  go_wp2_with fail
  go_region_held3 (fun w' => w'.cell? ⟨w.heap.size + 1, 0, none⟩ = some (.string st'.1)) (with_reducible first | assumption | exact D0.out | exact k3 | exact kS)
    (((with_reducible refine (C1.out _).mono ?_); rintro e w3 ⟨rfl, hb3⟩; have k3 : w3.cell? ⟨w.heap.size + 1, 0, none⟩ = some (.string st'.1) := (hb3.cell (Nat.lt_of_lt_of_le hltR hs2)).trans D0.out; have RC3 := Frm.below RC2.out hb3 (Nat.lt_of_lt_of_le hlt1 hs2); have RT3 := Thaw.below RT2.out hb3 (Nat.lt_of_lt_of_le hlt1 hs2); obtain ⟨r0, r1, r2, r3, r4, r5⟩ : w3.cell? ⟨w.heap.size, 0, none⟩ = some (.int .i64 0) ∧ w3.cell? ⟨w.heap.size, 1, none⟩ = some (.int .i64 0) ∧ w3.cell? ⟨w.heap.size, 2, none⟩ = some (.int .i64 0) ∧ w3.cell? ⟨w.heap.size, 3, none⟩ = some (.int .i64 0) ∧ w3.cell? ⟨w.heap.size, 4, none⟩ = some (.string ⟨#[]⟩) ∧ w3.cell? ⟨w.heap.size, 5, none⟩ = some (.slice none 0 0) := ⟨RC3 0, RC3 1, RC3 2, RC3 3, RC3 4, RC3 5⟩; obtain ⟨t0, t1, t2, t3, t4, t5⟩ : w3.frozen? ⟨w.heap.size, 0, none⟩ = false ∧ w3.frozen? ⟨w.heap.size, 1, none⟩ = false ∧ w3.frozen? ⟨w.heap.size, 2, none⟩ = false ∧ w3.frozen? ⟨w.heap.size, 3, none⟩ = false ∧ w3.frozen? ⟨w.heap.size, 4, none⟩ = false ∧ w3.frozen? ⟨w.heap.size, 5, none⟩ = false := ⟨RT3 0, RT3 1, RT3 2, RT3 3, RT3 4, RT3 5⟩; have HE := fd_end RC3 (HB2.out.trans (hb3.mono HB2.out.size)) (own_below HOU2.out hb3) hbase; have kS : ((((((w3.setCell ⟨w.heap.size, 0, none⟩ (.int .i64 f.k)).setCell ⟨w.heap.size, 1, none⟩ (.int .i64 f.a)).setCell ⟨w.heap.size, 2, none⟩ (.int .i64 f.b)).setCell ⟨w.heap.size, 3, none⟩ (.int .i64 f.c)).setCell ⟨w.heap.size, 4, none⟩ (.string f.d)).setCell ⟨w.heap.size, 5, none⟩ (.slice ua f.rs.length uc)).cell? ⟨w.heap.size + 1, 0, none⟩ = some (.string st'.1) := (far6 (Nat.ne_of_lt (Nat.lt_succ_self _))).trans k3))
  clear r0 r1 r2 r3 r4 r5 t0 t1 t2 t3 t4 t5 k3 hb3 RC3 RT3
  generalize ((((((w3.setCell ⟨w.heap.size, 0, none⟩ (.int .i64 f.k)).setCell ⟨w.heap.size, 1, none⟩ (.int .i64 f.a)).setCell ⟨w.heap.size, 2, none⟩ (.int .i64 f.b)).setCell ⟨w.heap.size, 3, none⟩ (.int .i64 f.c)).setCell ⟨w.heap.size, 4, none⟩ (.string f.d)).setCell ⟨w.heap.size, 5, none⟩ (.slice ua f.rs.length uc)) = W6 at *
  obtain ⟨FC6, B6, O6⟩ := HE.out
  have HB6 := Lib.hid B6
  have HO6 := Lib.hid O6
  obtain ⟨s0, s1, s2, s3, s4, s5⟩ : W6.cell? ⟨w.heap.size, 0, none⟩ = some (.int .i64 f.k) ∧ W6.cell? ⟨w.heap.size, 1, none⟩ = some (.int .i64 f.a) ∧ W6.cell? ⟨w.heap.size, 2, none⟩ = some (.int .i64 f.b) ∧ W6.cell? ⟨w.heap.size, 3, none⟩ = some (.int .i64 f.c) ∧ W6.cell? ⟨w.heap.size, 4, none⟩ = some (.string f.d) ∧ W6.cell? ⟨w.heap.size, 5, none⟩ = some (.slice ua f.rs.length uc) := ⟨FC6 0, FC6 1, FC6 2, FC6 3, FC6 4, FC6 5⟩
  clear FC6 B6 O6 HE
  go_wp2_with fail
  refine bodyPost_ret (v := .tuple #[frV f (.slice ua f.rs.length uc), .int .i64 ((s.size - st'.1.size : Nat) : Int), .bool true]) ?hr rfl ?_
  case hr => rw [results_cell_tmp2 rfl]; unfold frV; go_simp
  exact .inr ⟨f, s.size - st'.1.size, ua, uc, HN.out, rfl, HB6.out, HO6.out⟩

theorem ifdec_any (s : ByteArray) (w : World) (hs : s.size ≤ 4194304) : Calls Try.prog 17 #[.string s] w (FdPost w (dec4 s)) := by
  have hp := pres_eq s
  have hl : (pd s).1.rs.length ≤ 16 := pbody_len _ _
  have hn : fnorm (pd s).1 = (pd s).1 := pbody_norm _ _
  have hkk : (pd s).1.k = (rI (s, false)).1 := pbody_k _ _
  have hsn : (pd s).2.2 = false → (0 ≤ (pd s).1.k ∧ (pd s).1.k ≤ 10) → (pd s).2.1.size ≤ s.size := fun h hk => by
    obtain ⟨h3, h4⟩ := pbody_snd (rI (s, false)).1 (by rw [← hkk]; exact hk) (rI (s, false)).2 h
    obtain ⟨h5, h6⟩ := rI_snd h3
    have hz := congrArg ByteArray.size (h6.trans h4)
    rw [size_app] at hz
    show (pbody (rI (s, false)).1 (rI (s, false)).2).2.1.size ≤ s.size
    have h7 : s.size = (fenc (pbody (rI (s, false)).1 (rI (s, false)).2).1).size + (pbody (rI (s, false)).1 (rI (s, false)).2).2.1.size := hz
    omega
  unfold pres at hp
  obtain ⟨f, st', hpd⟩ : ∃ f st', pd s = (f, st') := ⟨_, _, rfl⟩
  rw [hpd] at hp hl hn hsn
  simp only at hp hl hn hsn
  by_cases hk : 0 ≤ f.k ∧ f.k ≤ 10
  · cases hf : st'.2
    · cases hq : finr f
      · rw [if_neg (fun h => by rw [hq] at h; exact absurd h.2.2 (by simp))] at hp
        exact fd_out s w hs f st' (Lib.hid hpd) (by omega) (Lib.hid hk) (Lib.hid hf) (Lib.hid hq) (Lib.hid hp.symm)
      · rw [if_pos ⟨hk, hf, hq⟩] at hp
        exact fd_yes s w hs f st' (Lib.hid hpd) (hsn hf hk) (Lib.hid hn) (by omega) (Lib.hid hk) (Lib.hid hf) (Lib.hid hq) (Lib.hid hp.symm)
    · rw [if_neg (fun h => by rw [hf] at h; exact absurd h.2.1 (by simp))] at hp
      exact fd_bad s w hs f st' (Lib.hid hpd) (Lib.hid hk) (Lib.hid hf) (Lib.hid hp.symm)
  · rw [if_neg (fun h => hk h.1)] at hp
    exact fd_no s w hs f st' (Lib.hid hpd) (Lib.hid hk) (Lib.hid hp.symm)

end Go.Proofs.Ythflokonihegbab
