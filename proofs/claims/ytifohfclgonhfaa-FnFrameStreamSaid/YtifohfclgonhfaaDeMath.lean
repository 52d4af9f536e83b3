/- Chapter 4, plain bytes: what is decoded is what was encoded, and nothing else. -/
import Derived.Test.YtifohfclgonhfaaFrMath
namespace Go.Proofs.Ytifohfclgonhfaa
open Go.RowKit
set_option linter.unusedVariables false
set_option linter.unusedSimpArgs false

def cut (s : ByteArray) (u : Nat) : ByteArray := s.extract u s.size
theorem cut_sz (s : ByteArray) (u : Nat) : (cut s u).size = s.size - u := cut_size s u
theorem cut_data (s : ByteArray) (u : Nat) : (cut s u).data.toList = s.data.toList.drop u := by
  unfold cut
  rw [Lib.extract_data, List.take_of_length_le]
  rw [List.length_drop, size_of_list]; omega
theorem cut_cut (s : ByteArray) (u v : Nat) : cut (cut s u) v = cut s (u + v) := by
  apply bytes_ext
  rw [cut_data, cut_data, cut_data, List.drop_drop]
theorem cut_zero (s : ByteArray) : cut s 0 = s := by apply bytes_ext; rw [cut_data]; rfl
theorem cut_app_front (a t : ByteArray) : cut (a ++ t) a.size = t := cut_front a t _ rfl
/-- The bytes ahead of u, and those from u on. -/
theorem split_at (s : ByteArray) (u : Nat) (h : u ≤ s.size) : s = s.extract 0 u ++ cut s u ∧ (s.extract 0 u).size = u := by
  have e : (s.extract 0 u).data.toList = s.data.toList.take u := by rw [Lib.extract_data]; simp
  constructor
  · apply bytes_ext
    have : (s.extract 0 u ++ cut s u).data.toList = (s.extract 0 u).data.toList ++ (cut s u).data.toList := by simp
    rw [this, e, cut_data, List.take_append_drop]
  · rw [← size_of_list, e, List.length_take, size_of_list]; omega
/-- A shortest encoding at the start is what encoding gives. -/
theorem enc_front (s : ByteArray) (h : dsz s ≠ 0) (hv : dsz s = vlen (dval s)) : s = encS (dval s) ++ cut s (dsz s).toNat := by
  have hle := dsz_le s
  have hnn := dsz_nonneg s
  obtain ⟨h1, h2⟩ := split_at s (dsz s).toNat (by omega)
  have hb : ∀ i, i < (dsz s).toNat → bt (s.extract 0 (dsz s).toNat) i = bt s i := by
    intro i hi
    have := bt_app (s.extract 0 (dsz s).toNat) (cut s (dsz s).toNat) i (by omega)
    rw [← h1] at this
    exact this.symm
  have hz : dsz (s.extract 0 (dsz s).toNat) = dsz s ∧ dval (s.extract 0 (dsz s).toNat) = dval s := by
    rcases dsz_cases s with k | k | k | k
    · exact absurd k h
    · have b0 := hb 0 (by omega)
      have := dsz_1 k
      have hd : dsz (s.extract 0 (dsz s).toNat) = 1 := by unfold dsz at *; rw [h2] at *; rw [if_neg (by omega)]; omega
      exact ⟨by omega, by rw [dval_1 hd, dval_1 k, b0]⟩
    · have b0 := hb 0 (by omega)
      have b1 := hb 1 (by omega)
      have := dsz_2 k
      generalize hp : s.extract 0 (dsz s).toNat = p at *
      have hd : dsz p = 2 := by unfold dsz; rw [if_neg (by omega)]; omega
      exact ⟨by omega, by rw [dval_2 hd, dval_2 k, b0, b1]⟩
    · have b0 := hb 0 (by omega)
      have b1 := hb 1 (by omega)
      have b2 := hb 2 (by omega)
      have b3 := hb 3 (by omega)
      have := dsz_4 k
      generalize hp : s.extract 0 (dsz s).toNat = p at *
      have hd : dsz p = 4 := by unfold dsz; rw [if_neg (by omega)]; omega
      exact ⟨by omega, by rw [dval_4 hd, dval_4 k, b0, b1, b2, b3]⟩
  have he := (enc_dec_iff (s.extract 0 (dsz s).toNat) (by omega)).2 ⟨by rw [hz.1]; omega, by rw [hz.1, hz.2]; exact hv⟩
  rw [hz.2] at he
  rw [he]
  exact h1

/-- Up to m numbers in their shortest encodings, and how many bytes they have. -/
def tk4 : Nat → ByteArray → List Int × Nat
  | 0, _ => ([], 0)
  | m + 1, s => if dsz s = 0 ∨ dsz s ≠ vlen (dval s) then ([], 0) else (dval s :: (tk4 m (cut s (dsz s).toNat)).1, (dsz s).toNat + (tk4 m (cut s (dsz s).toNat)).2)
theorem tk4_len : ∀ (m : Nat) (s : ByteArray), (tk4 m s).1.length ≤ m
  | 0, s => Nat.le_refl _
  | m + 1, s => by
    rw [tk4]; split
    · exact Nat.zero_le _
    · have := tk4_len m (cut s (dsz s).toNat)
      simp only [List.length_cons]; omega
theorem tk4_size : ∀ (m : Nat) (s : ByteArray), (tk4 m s).2 ≤ s.size
  | 0, s => Nat.zero_le _
  | m + 1, s => by
    rw [tk4]; split
    · exact Nat.zero_le _
    · have := tk4_size m (cut s (dsz s).toNat)
      rw [cut_sz] at this
      have := dsz_le s
      have := dsz_nonneg s
      simp only; omega
theorem tk4_ok : ∀ (m : Nat) (s : ByteArray), okAll (tk4 m s).1 = true ∧ s = joinS (tk4 m s).1 ++ cut s (tk4 m s).2 ∧ (tk4 m s).2 = (joinS (tk4 m s).1).size
  | 0, s => ⟨rfl, by rw [tk4, joinS_nil_app, cut_zero], rfl⟩
  | m + 1, s => by
    rw [tk4]; split
    · exact ⟨rfl, by rw [joinS_nil_app, cut_zero], rfl⟩
    · rename_i h
      obtain ⟨h1, h2, h3⟩ := tk4_ok m (cut s (dsz s).toNat)
      have hd : dsz s ≠ 0 := fun q => h (.inl q)
      have hv : dsz s = vlen (dval s) := Decidable.byContradiction fun q => h (.inr q)
      have hr := dval_range s
      have hz := encS_size (dval s)
      have hnn := dsz_nonneg s
      refine ⟨(okAll_cons_iff _ _).2 ⟨hr, h1⟩, ?_, ?_⟩
      · simp only
        rw [joinS_cons, app_assoc', ← cut_cut, ← h2]
        exact enc_front s hd hv
      · simp only
        rw [joinS_cons, size_app, h3]; omega
theorem tk4_join : ∀ (l : List Int) (t : ByteArray), okAll l = true → tk4 l.length (joinS l ++ t) = (l, (joinS l).size)
  | [], t, _ => rfl
  | n :: l, t, h => by
    obtain ⟨hn, hl⟩ := okAll_cons n l h
    obtain ⟨a1, a2, a3⟩ := cut_joinS n l t (vlen_ok hn).1
    have hv := (vlen_ok hn).1
    have hz := encS_size n
    rw [List.length_cons, tk4, a1, a2, if_neg (by omega)]
    have hc : cut (joinS (n :: l) ++ t) (vlen n).toNat = joinS l ++ t := a3
    rw [hc, tk4_join l t hl, joinS_cons, size_app]
    simp only [Prod.mk.injEq, true_and]
    omega

def rgs4 (s : ByteArray) : Option (List (Int × Int) × Nat) :=
  if (tk4 1 s).1.length < 1 ∨ 16 < (tk4 1 s).1.getD 0 0 then none
  else if (tk4 (2 * ((tk4 1 s).1.getD 0 0).toNat) (cut s (tk4 1 s).2)).1.length < 2 * ((tk4 1 s).1.getD 0 0).toNat then none
  else some (unde (-2) (tk4 (2 * ((tk4 1 s).1.getD 0 0).toNat) (cut s (tk4 1 s).2)).1, (tk4 1 s).2 + (tk4 (2 * ((tk4 1 s).1.getD 0 0).toNat) (cut s (tk4 1 s).2)).2)
def dat4 (s : ByteArray) : Option (ByteArray × Nat) :=
  if (tk4 1 s).1.length < 1 ∨ 12 < (tk4 1 s).1.getD 0 0 ∨ (s.size : Int) < ((tk4 1 s).2 : Int) + (tk4 1 s).1.getD 0 0 then none
  else some (s.extract (tk4 1 s).2 ((tk4 1 s).2 + ((tk4 1 s).1.getD 0 0).toNat), (tk4 1 s).2 + ((tk4 1 s).1.getD 0 0).toNat)
def dhead (k : Int) (q : List Int) : Fr := ⟨k, (q ++ [0, 0, 0]).getD 0 0, (q ++ [0, 0, 0]).getD 1 0, (q ++ [0, 0, 0]).getD 2 0, ⟨#[]⟩, []⟩
def chk (f : Fr) (n : Nat) : Option (Fr × Nat) := if fok f then some (f, n) else none
def withR (f : Fr) (l : List (Int × Int)) : Fr := ⟨f.k, f.a, f.b, f.c, f.d, l⟩
def withD (f : Fr) (d : ByteArray) : Fr := ⟨f.k, f.a, f.b, f.c, d, f.rs⟩
def dbody (k : Int) (q : List Int) (r : ByteArray) (u : Nat) : Option (Fr × Nat) :=
  if k = 2 then (rgs4 r).bind fun p => chk (withR (dhead k q) p.1) (u + p.2)
  else if k = 3 ∨ k = 9 then (dat4 r).bind fun p => chk (withD (dhead k q) p.1) (u + p.2)
  else chk (dhead k q) u
def dec4 (s : ByteArray) : Option (Fr × Nat) :=
  if (tk4 1 s).1.length < 1 ∨ 10 < (tk4 1 s).1.getD 0 0 then none
  else if (tk4 (fnum ((tk4 1 s).1.getD 0 0)) (cut s (tk4 1 s).2)).1.length < fnum ((tk4 1 s).1.getD 0 0) then none
  else dbody ((tk4 1 s).1.getD 0 0) (tk4 (fnum ((tk4 1 s).1.getD 0 0)) (cut s (tk4 1 s).2)).1 (cut s ((tk4 1 s).2 + (tk4 (fnum ((tk4 1 s).1.getD 0 0)) (cut s (tk4 1 s).2)).2)) ((tk4 1 s).2 + (tk4 (fnum ((tk4 1 s).1.getD 0 0)) (cut s (tk4 1 s).2)).2)

/-- One number ahead. -/
theorem tk4_one {s : ByteArray} (h : ¬ (tk4 1 s).1.length < 1) : ∃ n, (tk4 1 s).1 = [n] ∧ (tk4 1 s).1.getD 0 0 = n ∧ okAll [n] = true ∧ s = joinS [n] ++ cut s (tk4 1 s).2 ∧ (tk4 1 s).2 = (joinS [n]).size := by
  have hl := tk4_len 1 s
  obtain ⟨h1, h2, h3⟩ := tk4_ok 1 s
  obtain ⟨n, hn⟩ := List.length_eq_one_iff.1 (by omega : (tk4 1 s).1.length = 1)
  rw [hn] at h1 h2 h3
  exact ⟨n, hn, by rw [hn]; rfl, h1, h2, h3⟩
theorem tk4_cons (n : Int) (l : List Int) (t : ByteArray) (h : okAll [n] = true) : tk4 1 (joinS (n :: l) ++ t) = ([n], (joinS [n]).size) ∧ cut (joinS (n :: l) ++ t) (joinS [n]).size = joinS l ++ t := by
  have e : joinS (n :: l) = joinS [n] ++ joinS l := joinS_app [n] l
  rw [e, app_assoc']
  exact ⟨tk4_join [n] _ h, cut_app_front _ _⟩

theorem rgs4_some {s : ByteArray} {l : List (Int × Int)} {u : Nat} (h : rgs4 s = some (l, u)) : s = joinS ((l.length : Int) :: deltas (-2) l) ++ cut s u ∧ u = (joinS ((l.length : Int) :: deltas (-2) l)).size := by
  unfold rgs4 at h
  split at h
  · cases h
  · rename_i h1
    obtain ⟨n, _, e2, hok, e3, e4⟩ := tk4_one (fun q => h1 (.inl q))
    rw [e2] at h h1
    have hn0 := (okAll_cons n [] hok).1
    split at h
    · cases h
    · rename_i h2
      obtain ⟨g1, g2, g3⟩ := tk4_ok (2 * n.toNat) (cut s (tk4 1 s).2)
      have hl := tk4_len (2 * n.toNat) (cut s (tk4 1 s).2)
      generalize hq : tk4 (2 * n.toNat) (cut s (tk4 1 s).2) = q at *
      injection h with h
      injection h with ha hb
      obtain ⟨d1, d2⟩ := deltas_unde n.toNat (-2) q.1 (by omega)
      rw [ha] at d1 d2
      have hln : (l.length : Int) = n := by omega
      have hj : joinS ((l.length : Int) :: deltas (-2) l) = joinS [n] ++ joinS q.1 := by rw [hln, d1]; exact joinS_app [n] q.1
      rw [hj, ← hb]
      constructor
      · rw [app_assoc', ← cut_cut, ← g2]; exact e3
      · rw [size_app, g3, e4]
theorem rgs4_join (l : List (Int × Int)) (t : ByteArray) (hl : l.length ≤ 16) (h : okAll ((l.length : Int) :: deltas (-2) l) = true) : rgs4 (joinS ((l.length : Int) :: deltas (-2) l) ++ t) = some (l, (joinS ((l.length : Int) :: deltas (-2) l)).size) := by
  have h1 : okAll [(l.length : Int)] = true := (okAll_cons_iff _ _).2 ⟨(okAll_cons _ _ h).1, rfl⟩
  have h2 := (okAll_cons _ _ h).2
  obtain ⟨e1, e2⟩ := tk4_cons (l.length : Int) (deltas (-2) l) t h1
  have e3 := tk4_join (deltas (-2) l) t h2
  have hd := deltas_len (-2) l
  have e4 : 2 * ((l.length : Int)).toNat = (deltas (-2) l).length := by omega
  have e5 : joinS ((l.length : Int) :: deltas (-2) l) = joinS [(l.length : Int)] ++ joinS (deltas (-2) l) := joinS_app [_] _
  unfold rgs4
  rw [e1]
  simp only [List.getD_cons_zero, List.length_singleton]
  rw [if_neg (by omega), e2, e4, e3, if_neg (by simp), unde_deltas, e5, size_app]
theorem dat4_some {s d : ByteArray} {u : Nat} (h : dat4 s = some (d, u)) : s = joinS [(d.size : Int)] ++ d ++ cut s u ∧ u = (joinS [(d.size : Int)] ++ d).size := by
  unfold dat4 at h
  split at h
  · cases h
  · rename_i h1
    obtain ⟨n, _, e2, hok, e3, e4⟩ := tk4_one (fun q => h1 (.inl q))
    rw [e2] at h h1
    have hn0 := (okAll_cons n [] hok).1
    injection h with h
    injection h with ha hb
    have hd : d = (cut s (tk4 1 s).2).extract 0 n.toNat := by
      rw [← ha]
      apply bytes_ext
      rw [Lib.extract_data, Lib.extract_data, cut_data, List.drop_zero]
      congr 1; omega
    obtain ⟨p1, p2⟩ := split_at (cut s (tk4 1 s).2) n.toNat (by rw [cut_sz]; omega)
    rw [← hd] at p1 p2
    have hdn : (d.size : Int) = n := by omega
    rw [hdn, ← hb]
    constructor
    · rw [app_assoc', ← cut_cut, ← p1]; exact e3
    · rw [size_app, p2, e4]
theorem dat4_join (d t : ByteArray) (hd : d.size ≤ 12) : dat4 (joinS [(d.size : Int)] ++ d ++ t) = some (d, (joinS [(d.size : Int)] ++ d).size) := by
  have h1 : okAll [(d.size : Int)] = true := (okAll_cons_iff _ _).2 ⟨by omega, rfl⟩
  have e1 := tk4_join [(d.size : Int)] (d ++ t) h1
  rw [app_assoc']
  unfold dat4
  rw [show tk4 1 (joinS [(d.size : Int)] ++ (d ++ t)) = ([(d.size : Int)], (joinS [(d.size : Int)]).size) from e1]
  simp only [List.getD_cons_zero, List.length_singleton]
  have hz := size_app (joinS [(d.size : Int)]) (d ++ t)
  have hz2 := size_app d t
  rw [if_neg (by omega), size_app]
  have e : (joinS [(d.size : Int)] ++ (d ++ t)).extract (joinS [(d.size : Int)]).size ((joinS [(d.size : Int)]).size + ((d.size : Int)).toNat) = d := by
    apply bytes_ext
    rw [Lib.extract_data]
    have l1 : (joinS [(d.size : Int)] ++ (d ++ t)).data.toList = (joinS [(d.size : Int)]).data.toList ++ (d.data.toList ++ t.data.toList) := by simp
    have s1 := size_of_list (joinS [(d.size : Int)])
    have s2 := size_of_list d
    rw [l1, ← s1, List.drop_left, List.take_left' (by omega)]
  rw [e]
  simp

theorem chk_some {f g : Fr} {n m : Nat} (h : chk f n = some (g, m)) : fok f = true ∧ f = g ∧ n = m := by
  unfold chk at h; split at h
  · injection h with h; injection h with h1 h2; exact ⟨‹_›, h1, h2⟩
  · cases h
theorem chk_ok {f : Fr} {n : Nat} (h : fok f = true) : chk f n = some (f, n) := by unfold chk; rw [if_pos h]
theorem dhead_fhd (k : Int) (q : List Int) (h : q.length = fnum k) : fhd (dhead k q) = q ∧ fun1 (dhead k q) = true := by
  have hn := fnum_le k
  unfold fhd fun1 dhead
  simp only
  rw [← h] at hn ⊢
  rcases q with _ | ⟨x, _ | ⟨y, _ | ⟨z, _ | ⟨u, r⟩⟩⟩⟩
  · exact ⟨rfl, rfl⟩
  · exact ⟨rfl, rfl⟩
  · exact ⟨rfl, rfl⟩
  · exact ⟨rfl, rfl⟩
  · exfalso; simp only [List.length_cons] at hn; omega
theorem dhead_of {f : Fr} (h : fok f = true) : dhead f.k (fhd f) = ⟨f.k, f.a, f.b, f.c, ⟨#[]⟩, []⟩ := by
  obtain ⟨u1, u2, u3⟩ := (fok_parts h).1
  have hn := fnum_le f.k
  unfold fhd dhead
  have : fnum f.k = 0 ∨ fnum f.k = 1 ∨ fnum f.k = 2 ∨ fnum f.k = 3 := by omega
  rcases this with e | e | e | e <;> rw [e] at u1 u2 u3 ⊢
  · rw [u1 (by omega), u2 (by omega), u3 (by omega)]; rfl
  · rw [u1 (by omega), u2 (by omega)]; rfl
  · rw [u1 (by omega)]; rfl
  · rfl

/-- What is decoded is a valid frame, whose encoding is there. -/
theorem dec4_some {s : ByteArray} {f : Fr} {n : Nat} (h : dec4 s = some (f, n)) : fok f = true ∧ s = fenc f ++ cut s n ∧ n = (fenc f).size := by
  unfold dec4 at h
  split at h
  · cases h
  · rename_i h1
    obtain ⟨k, _, e2, hok, e3, e4⟩ := tk4_one (fun q => h1 (.inl q))
    rw [e2] at h h1
    split at h
    · cases h
    · rename_i h2
      obtain ⟨g1, g2, g3⟩ := tk4_ok (fnum k) (cut s (tk4 1 s).2)
      have hl := tk4_len (fnum k) (cut s (tk4 1 s).2)
      generalize hq : tk4 (fnum k) (cut s (tk4 1 s).2) = q at *
      obtain ⟨f1, _⟩ := dhead_fhd k q.1 (by omega)
      have es : s = joinS (k :: q.1) ++ cut s ((tk4 1 s).2 + q.2) := by
        rw [show joinS (k :: q.1) = joinS [k] ++ joinS q.1 from joinS_app [k] q.1, app_assoc', ← cut_cut, ← g2]; exact e3
      have eu : (tk4 1 s).2 + q.2 = (joinS (k :: q.1)).size := by
        rw [show joinS (k :: q.1) = joinS [k] ++ joinS q.1 from joinS_app [k] q.1, size_app, e4, g3]
      unfold dbody at h
      split at h
      · rename_i hk
        cases hr : rgs4 (cut s ((tk4 1 s).2 + q.2)) with
        | none => rw [hr] at h; cases h
        | some p =>
          rw [hr] at h
          obtain ⟨c1, c2, c3⟩ := chk_some h
          obtain ⟨r1, r2⟩ := rgs4_some (l := p.1) (u := p.2) hr
          have fe : fenc f = joinS (k :: q.1) ++ joinS ((p.1.length : Int) :: deltas (-2) p.1) := by
            have : fints f = (k :: q.1) ++ ((p.1.length : Int) :: deltas (-2) p.1) := by
              rw [← c2]
              show k :: (fhd (withR (dhead k q.1) p.1) ++ frest (withR (dhead k q.1) p.1)) = _
              rw [show fhd (withR (dhead k q.1) p.1) = q.1 from f1]
              unfold frest; rw [if_pos (show (withR (dhead k q.1) p.1).k = 2 from hk)]; rfl
            unfold fenc ftail
            rw [this, joinS_app, if_neg (by rw [← c2]; show ¬ (k = 3 ∨ k = 9); omega)]
            exact app_nil _
          rw [← c3, fe]
          refine ⟨by rw [← c2]; exact c1, ?_, by rw [size_app, ← r2, ← eu]⟩
          rw [app_assoc', ← cut_cut, ← r1]; exact es
      · rename_i hk
        split at h
        · rename_i hk3
          cases hr : dat4 (cut s ((tk4 1 s).2 + q.2)) with
          | none => rw [hr] at h; cases h
          | some p =>
            rw [hr] at h
            obtain ⟨c1, c2, c3⟩ := chk_some h
            obtain ⟨r1, r2⟩ := dat4_some (d := p.1) (u := p.2) hr
            have fe : fenc f = joinS (k :: q.1) ++ (joinS [(p.1.size : Int)] ++ p.1) := by
              have : fints f = (k :: q.1) ++ [(p.1.size : Int)] := by
                rw [← c2]
                show k :: (fhd (withD (dhead k q.1) p.1) ++ frest (withD (dhead k q.1) p.1)) = _
                rw [show fhd (withD (dhead k q.1) p.1) = q.1 from f1]
                unfold frest; rw [if_neg (show ¬ (withD (dhead k q.1) p.1).k = 2 from hk), if_pos (show (withD (dhead k q.1) p.1).k = 3 ∨ (withD (dhead k q.1) p.1).k = 9 from hk3)]; rfl
              unfold fenc ftail
              rw [this, joinS_app, if_pos (by rw [← c2]; exact hk3), app_assoc']
              rw [← c2]; rfl
            rw [← c3, fe]
            refine ⟨by rw [← c2]; exact c1, ?_, by rw [size_app, ← r2, ← eu]⟩
            rw [app_assoc', ← cut_cut, ← r1]; exact es
        · rename_i hk3
          obtain ⟨c1, c2, c3⟩ := chk_some h
          have fe : fenc f = joinS (k :: q.1) := by
            have : fints f = (k :: q.1) := by
              rw [← c2]
              show k :: (fhd (dhead k q.1) ++ frest (dhead k q.1)) = _
              rw [f1]
              unfold frest; rw [if_neg (show ¬ (dhead k q.1).k = 2 from hk), if_neg (show ¬ ((dhead k q.1).k = 3 ∨ (dhead k q.1).k = 9) from hk3), List.append_nil]
            unfold fenc ftail
            rw [this, if_neg (by rw [← c2]; exact hk3)]
            exact app_nil _
          rw [← c3, fe]
          exact ⟨by rw [← c2]; exact c1, es, eu⟩
/-- What was encoded is decoded, whatever follows. -/
theorem dec4_enc {f : Fr} (h : fok f = true) (t : ByteArray) : dec4 (fenc f ++ t) = some (f, (fenc f).size) := by
  have hk := fok_k h
  have ok := fints_ok h
  have ok1 : okAll [f.k] = true := (okAll_cons_iff _ _).2 ⟨(okAll_cons _ _ ok).1, rfl⟩
  have okh := fhd_ok h
  have okr := frest_ok h
  have hfl := fhd_len f
  have hdh := dhead_of h
  have e0 : fenc f ++ t = joinS (f.k :: (fhd f ++ frest f)) ++ (ftail f ++ t) := by unfold fenc fints; rw [app_assoc']
  obtain ⟨a1, a2⟩ := tk4_cons f.k (fhd f ++ frest f) (ftail f ++ t) ok1
  have a3 : joinS (fhd f ++ frest f) ++ (ftail f ++ t) = joinS (fhd f) ++ (joinS (frest f) ++ (ftail f ++ t)) := by rw [joinS_app, app_assoc']
  have a4 := tk4_join (fhd f) (joinS (frest f) ++ (ftail f ++ t)) okh
  have a5 : cut (joinS (f.k :: (fhd f ++ frest f)) ++ (ftail f ++ t)) ((joinS [f.k]).size + (joinS (fhd f)).size) = joinS (frest f) ++ (ftail f ++ t) := by
    rw [← cut_cut, a2, a3]; exact cut_app_front _ _
  have es : (fenc f).size = (joinS [f.k]).size + (joinS (fhd f)).size + ((joinS (frest f)).size + (ftail f).size) := by
    unfold fenc fints
    rw [size_app, show joinS (f.k :: (fhd f ++ frest f)) = joinS [f.k] ++ joinS (fhd f ++ frest f) from joinS_app [_] _, size_app, joinS_app, size_app]; omega
  rw [e0, es]
  unfold dec4
  rw [a1]
  simp only [List.getD_cons_zero, List.length_singleton]
  rw [if_neg (by omega), a2, a3, ← hfl, a4]
  simp only
  rw [if_neg (by omega), a5]
  unfold dbody
  by_cases h2 : f.k = 2
  · have hb := (fok_cases h)
    have hr16 : f.rs.length ≤ 16 := by
      rcases hb with q | q | q | q | q | q | q | q <;> first | exact (rvalid_parts q.2.2.2).2 | (exfalso; omega)
    have er : frest f = (f.rs.length : Int) :: deltas (-2) f.rs := by unfold frest; rw [if_pos h2]
    have et : ftail f = ⟨#[]⟩ := by unfold ftail; rw [if_neg (by omega)]
    have hd0 := (fok_parts h).2.1.2 (by omega) (by omega)
    rw [if_pos h2, er, rgs4_join f.rs _ hr16 (by rw [← er]; exact okr)]
    simp only [Option.bind_some]
    rw [hdh]
    have ef : withR ⟨f.k, f.a, f.b, f.c, ⟨#[]⟩, []⟩ f.rs = f := fr_ext rfl rfl rfl rfl (bytes_zero hd0).symm rfl
    rw [ef, chk_ok h, et]
    rfl
  · have hr0 : f.rs = [] := List.length_eq_zero_iff.1 ((fok_parts h).2.1.1 h2)
    rw [if_neg h2]
    by_cases h3 : f.k = 3 ∨ f.k = 9
    · have er : frest f = [(f.d.size : Int)] := by unfold frest; rw [if_neg h2, if_pos h3]
      have et : ftail f = f.d := by unfold ftail; rw [if_pos h3]
      rw [if_pos h3, er, et, ← app_assoc', dat4_join f.d t (fok_parts h).2.2.2]
      simp only [Option.bind_some]
      rw [hdh]
      have ef : withD ⟨f.k, f.a, f.b, f.c, ⟨#[]⟩, []⟩ f.d = f := fr_ext rfl rfl rfl rfl rfl hr0.symm
      rw [ef, chk_ok h, size_app]
    · have er : frest f = [] := by unfold frest; rw [if_neg h2, if_neg h3]
      have et : ftail f = ⟨#[]⟩ := by unfold ftail; rw [if_neg h3]
      have hd0 := (fok_parts h).2.1.2 (by omega) (by omega)
      rw [if_neg h3, hdh]
      have ef : (⟨f.k, f.a, f.b, f.c, ⟨#[]⟩, []⟩ : Fr) = f := fr_ext rfl rfl rfl rfl (bytes_zero hd0).symm hr0.symm
      rw [ef, chk_ok h, er, et]
      rfl
theorem dec4_iff (s : ByteArray) (f : Fr) (n : Nat) : dec4 s = some (f, n) ↔ fok f = true ∧ n = (fenc f).size ∧ ∃ t, s = fenc f ++ t := by
  constructor
  · intro h
    obtain ⟨a, b, c⟩ := dec4_some h
    exact ⟨a, c, _, b⟩
  · rintro ⟨a, rfl, t, rfl⟩
    exact dec4_enc a t

end Go.Proofs.Ytifohfclgonhfaa
