/- Chapter 4, plain frames and bytes: which frames are valid, their encodings, what is decoded; one encoding, none the part of another. -/
import Derived.Test.YtifohfclgonhfaaVMath
import Derived.Test.YtifohfclgonhfaaRgMath
namespace Go.Proofs.Ytifohfclgonhfaa
open Go.RowKit
set_option linter.unusedVariables false
set_option linter.unusedSimpArgs false

structure Fr where
  k : Int
  a : Int
  b : Int
  c : Int
  d : ByteArray
  rs : List (Int × Int)

theorem fr_ext {f g : Fr} (h1 : f.k = g.k) (h2 : f.a = g.a) (h3 : f.b = g.b) (h4 : f.c = g.c) (h5 : f.d = g.d) (h6 : f.rs = g.rs) : f = g := by
  cases f; cases g; simp only at h1 h2 h3 h4 h5 h6; rw [h1, h2, h3, h4, h5, h6]

/-- How many of A, B and C a kind has. -/
def fnum (k : Int) : Nat := if k = 0 ∨ k = 1 ∨ k = 9 then 0 else if k = 3 then 3 else if k = 4 ∨ k = 7 then 2 else 1
def ffld (f : Fr) : Bool :=
  if f.k = 2 then decide (0 ≤ f.a ∧ f.a ≤ 3) && (decide (0 < f.rs.length) && rvalid f.rs)
  else if f.k = 3 then decide ((0 ≤ f.a ∧ f.a ≤ 2) ∧ (0 ≤ f.b ∧ f.b ≤ 30) ∧ (0 ≤ f.c ∧ f.c ≤ 1) ∧ f.b + (f.d.size : Int) ≤ 30)
  else if f.k = 4 then decide ((0 ≤ f.a ∧ f.a ≤ 2) ∧ (0 ≤ f.b ∧ f.b ≤ 30))
  else if f.k = 5 ∨ f.k = 6 then decide (0 ≤ f.a ∧ f.a ≤ 9999)
  else if f.k = 7 then decide ((0 ≤ f.a ∧ f.a ≤ 15) ∧ (0 ≤ f.b ∧ f.b ≤ 9999))
  else if f.k = 8 then decide (0 ≤ f.a ∧ f.a ≤ 15)
  else if f.k = 10 then decide (0 ≤ f.a ∧ f.a ≤ 99)
  else decide (0 ≤ f.k ∧ f.k ≤ 10)
def fun1 (f : Fr) : Bool := decide ((fnum f.k < 3 → f.c = 0) ∧ (fnum f.k < 2 → f.b = 0) ∧ (fnum f.k < 1 → f.a = 0))
def fun2 (f : Fr) : Bool := decide ((f.k ≠ 2 → f.rs.length = 0) ∧ (f.k ≠ 3 → f.k ≠ 9 → f.d.size = 0))
def fok (f : Fr) : Bool := fun1 f && (fun2 f && (ffld f && decide (f.d.size ≤ 12)))

theorem fok_parts {f : Fr} (h : fok f = true) : ((fnum f.k < 3 → f.c = 0) ∧ (fnum f.k < 2 → f.b = 0) ∧ (fnum f.k < 1 → f.a = 0)) ∧ ((f.k ≠ 2 → f.rs.length = 0) ∧ (f.k ≠ 3 → f.k ≠ 9 → f.d.size = 0)) ∧ ffld f = true ∧ f.d.size ≤ 12 := by
  unfold fok fun1 fun2 at h
  simpa only [Bool.and_eq_true, decide_eq_true_eq] using h

/-- Which kinds there are, and what their fields may be. -/
theorem fok_cases {f : Fr} (h : fok f = true) :
    (f.k = 2 ∧ (0 ≤ f.a ∧ f.a ≤ 3) ∧ 0 < f.rs.length ∧ rvalid f.rs = true)
    ∨ (f.k = 3 ∧ (0 ≤ f.a ∧ f.a ≤ 2) ∧ (0 ≤ f.b ∧ f.b ≤ 30) ∧ (0 ≤ f.c ∧ f.c ≤ 1) ∧ f.b + (f.d.size : Int) ≤ 30)
    ∨ (f.k = 4 ∧ (0 ≤ f.a ∧ f.a ≤ 2) ∧ (0 ≤ f.b ∧ f.b ≤ 30))
    ∨ ((f.k = 5 ∨ f.k = 6) ∧ (0 ≤ f.a ∧ f.a ≤ 9999))
    ∨ (f.k = 7 ∧ (0 ≤ f.a ∧ f.a ≤ 15) ∧ (0 ≤ f.b ∧ f.b ≤ 9999))
    ∨ (f.k = 8 ∧ (0 ≤ f.a ∧ f.a ≤ 15))
    ∨ (f.k = 10 ∧ (0 ≤ f.a ∧ f.a ≤ 99))
    ∨ (f.k = 0 ∨ f.k = 1 ∨ f.k = 9) := by
  have hf := (fok_parts h).2.2.1
  unfold ffld at hf
  by_cases h2 : f.k = 2
  · rw [if_pos h2, Bool.and_eq_true, Bool.and_eq_true, decide_eq_true_eq, decide_eq_true_eq] at hf
    exact .inl ⟨h2, hf⟩
  rw [if_neg h2] at hf
  by_cases h3 : f.k = 3
  · rw [if_pos h3, decide_eq_true_eq] at hf
    exact .inr (.inl ⟨h3, hf⟩)
  rw [if_neg h3] at hf
  by_cases h4 : f.k = 4
  · rw [if_pos h4, decide_eq_true_eq] at hf
    exact .inr (.inr (.inl ⟨h4, hf⟩))
  rw [if_neg h4] at hf
  by_cases h5 : f.k = 5 ∨ f.k = 6
  · rw [if_pos h5, decide_eq_true_eq] at hf
    exact .inr (.inr (.inr (.inl ⟨h5, hf⟩)))
  rw [if_neg h5] at hf
  by_cases h7 : f.k = 7
  · rw [if_pos h7, decide_eq_true_eq] at hf
    exact .inr (.inr (.inr (.inr (.inl ⟨h7, hf⟩))))
  rw [if_neg h7] at hf
  by_cases h8 : f.k = 8
  · rw [if_pos h8, decide_eq_true_eq] at hf
    exact .inr (.inr (.inr (.inr (.inr (.inl ⟨h8, hf⟩)))))
  rw [if_neg h8] at hf
  by_cases h10 : f.k = 10
  · rw [if_pos h10, decide_eq_true_eq] at hf
    exact .inr (.inr (.inr (.inr (.inr (.inr (.inl ⟨h10, hf⟩))))))
  rw [if_neg h10, decide_eq_true_eq] at hf
  exact .inr (.inr (.inr (.inr (.inr (.inr (.inr (by omega)))))))

/-- A list of ranges as distances. -/
def deltas : Int → List (Int × Int) → List Int
  | _, [] => []
  | z, r :: t => (r.1 - z - 2) :: (r.2 - r.1) :: deltas r.2 t
def unde : Int → List Int → List (Int × Int)
  | z, x :: y :: t => (z + 2 + x, z + 2 + x + y) :: unde (z + 2 + x + y) t
  | _, _ => []
theorem deltas_len : ∀ (z : Int) (l : List (Int × Int)), (deltas z l).length = 2 * l.length
  | _, [] => rfl
  | z, r :: t => by rw [deltas, List.length_cons, List.length_cons, deltas_len, List.length_cons]; omega
theorem unde_deltas : ∀ (z : Int) (l : List (Int × Int)), unde z (deltas z l) = l
  | _, [] => rfl
  | z, r :: t => by
    rw [deltas, unde]
    have e1 : z + 2 + (r.1 - z - 2) = r.1 := by omega
    have e2 : z + 2 + (r.1 - z - 2) + (r.2 - r.1) = r.2 := by omega
    rw [e1, show r.1 + (r.2 - r.1) = r.2 from by omega, unde_deltas]
theorem deltas_unde : ∀ (n : Nat) (z : Int) (l : List Int), l.length = 2 * n → deltas z (unde z l) = l ∧ (unde z l).length = n
  | 0, z, l, h => by
    have : l = [] := List.length_eq_zero_iff.1 (by omega)
    subst this; exact ⟨rfl, rfl⟩
  | n + 1, z, [], h => by simp at h
  | n + 1, z, [x], h => by simp at h; omega
  | n + 1, z, x :: y :: t, h => by
    simp only [List.length_cons] at h
    obtain ⟨h1, h2⟩ := deltas_unde n (z + 2 + x + y) t (by omega)
    rw [unde, deltas]
    constructor
    · show (z + 2 + x - z - 2) :: (z + 2 + x + y - (z + 2 + x)) :: deltas (z + 2 + x + y) (unde (z + 2 + x + y) t) = _
      rw [h1, show z + 2 + x - z - 2 = x from by omega, show z + 2 + x + y - (z + 2 + x) = y from by omega]
    · rw [List.length_cons, h2]
theorem deltas_ok : ∀ (z : Int) (l : List (Int × Int)), -2 ≤ z → vfrom (z + 2) l = true → okAll (deltas z l) = true
  | _, [], _, _ => rfl
  | z, r :: t, hz, h => by
    rw [vfrom_cons] at h
    have ih := deltas_ok r.2 t (by omega) h.2
    unfold okAll at ih ⊢
    rw [deltas, List.all_cons, List.all_cons, ih, decide_eq_true (by omega), decide_eq_true (by omega)]
    rfl

def fhd (f : Fr) : List Int := [f.a, f.b, f.c].take (fnum f.k)
def frest (f : Fr) : List Int := if f.k = 2 then (f.rs.length : Int) :: deltas (-2) f.rs else if f.k = 3 ∨ f.k = 9 then [(f.d.size : Int)] else []
def fints (f : Fr) : List Int := f.k :: (fhd f ++ frest f)
def ftail (f : Fr) : ByteArray := if f.k = 3 ∨ f.k = 9 then f.d else ⟨#[]⟩
def fenc (f : Fr) : ByteArray := joinS (fints f) ++ ftail f
def fencS (f : Fr) : ByteArray := if fok f then fenc f else ⟨#[]⟩

theorem fnum_le (k : Int) : fnum k ≤ 3 := by unfold fnum; repeat' split
                                             all_goals omega
theorem fhd_len (f : Fr) : (fhd f).length = fnum f.k := by
  unfold fhd; rw [List.length_take]; have := fnum_le f.k; simp; omega
theorem okAll_app (l m : List Int) : okAll (l ++ m) = (okAll l && okAll m) := by unfold okAll; exact List.all_append
theorem okAll_cons_iff (n : Int) (l : List Int) : okAll (n :: l) = true ↔ (0 ≤ n ∧ n ≤ 1073741823) ∧ okAll l = true := by
  unfold okAll; rw [List.all_cons, Bool.and_eq_true, decide_eq_true_eq]
theorem fnum_at {k : Int} : (k = 2 → fnum k = 1) ∧ (k = 3 → fnum k = 3) ∧ (k = 4 → fnum k = 2) ∧ (k = 5 → fnum k = 1) ∧ (k = 6 → fnum k = 1) ∧ (k = 7 → fnum k = 2) ∧ (k = 8 → fnum k = 1) ∧ (k = 10 → fnum k = 1) ∧ (k = 0 → fnum k = 0) ∧ (k = 1 → fnum k = 0) ∧ (k = 9 → fnum k = 0) := by
  refine ⟨?_, ?_, ?_, ?_, ?_, ?_, ?_, ?_, ?_, ?_, ?_⟩ <;> (rintro rfl; rfl)
theorem okAll_nil : okAll [] = true := rfl
theorem fhd_ok {f : Fr} (h : fok f = true) : okAll (fhd f) = true := by
  have hu := (fok_parts h).1
  have hn := @fnum_at f.k
  obtain ⟨n2, n3, n4, n5, n6, n7, n8, n10, n0, n1, n9⟩ := hn
  unfold fhd
  rcases fok_cases h with c | c | c | c | c | c | c | c
  · rw [n2 c.1]; exact (okAll_cons_iff _ _).2 ⟨by omega, rfl⟩
  · rw [n3 c.1]; exact (okAll_cons_iff _ _).2 ⟨by omega, (okAll_cons_iff _ _).2 ⟨by omega, (okAll_cons_iff _ _).2 ⟨by omega, rfl⟩⟩⟩
  · rw [n4 c.1]; exact (okAll_cons_iff _ _).2 ⟨by omega, (okAll_cons_iff _ _).2 ⟨by omega, rfl⟩⟩
  · have : fnum f.k = 1 := by rcases c.1 with e | e; exact n5 e; exact n6 e
    rw [this]; exact (okAll_cons_iff _ _).2 ⟨by omega, rfl⟩
  · rw [n7 c.1]; exact (okAll_cons_iff _ _).2 ⟨by omega, (okAll_cons_iff _ _).2 ⟨by omega, rfl⟩⟩
  · rw [n8 c.1]; exact (okAll_cons_iff _ _).2 ⟨by omega, rfl⟩
  · rw [n10 c.1]; exact (okAll_cons_iff _ _).2 ⟨by omega, rfl⟩
  · have : fnum f.k = 0 := by rcases c with e | e | e; exact n0 e; exact n1 e; exact n9 e
    rw [this]; rfl
theorem fok_k {f : Fr} (h : fok f = true) : 0 ≤ f.k ∧ f.k ≤ 10 := by
  rcases fok_cases h with c | c | c | c | c | c | c | c <;> omega
theorem rvalid_parts {l : List (Int × Int)} (h : rvalid l = true) : vfrom 0 l = true ∧ l.length ≤ 16 := by
  unfold rvalid at h; rw [Bool.and_eq_true, decide_eq_true_eq] at h; exact h
theorem frest_ok {f : Fr} (h : fok f = true) : okAll (frest f) = true := by
  have hd := (fok_parts h).2.2.2
  unfold frest
  by_cases h2 : f.k = 2
  · rw [if_pos h2]
    rcases fok_cases h with c | c | c | c | c | c | c | c
    · have hr := rvalid_parts c.2.2.2
      exact (okAll_cons_iff _ _).2 ⟨by omega, deltas_ok (-2) f.rs (by omega) hr.1⟩
    all_goals (exfalso; omega)
  · rw [if_neg h2]
    by_cases h3 : f.k = 3 ∨ f.k = 9
    · rw [if_pos h3]; exact (okAll_cons_iff _ _).2 ⟨by omega, rfl⟩
    · rw [if_neg h3]; rfl
theorem fints_ok {f : Fr} (h : fok f = true) : okAll (fints f) = true := by
  have hk := fok_k h
  exact (okAll_cons_iff _ _).2 ⟨by omega, by rw [okAll_app, fhd_ok h, frest_ok h]; rfl⟩
theorem frest_len {f : Fr} (h : fok f = true) : (frest f).length ≤ 33 := by
  unfold frest
  by_cases h2 : f.k = 2
  · rw [if_pos h2]
    rcases fok_cases h with c | c | c | c | c | c | c | c
    · have hr := rvalid_parts c.2.2.2
      rw [List.length_cons, deltas_len]; omega
    all_goals (exfalso; omega)
  · rw [if_neg h2]; split <;> simp

theorem joinS_app (l m : List Int) : joinS (l ++ m) = joinS l ++ joinS m := by
  induction l with
  | nil => rw [List.nil_append]; apply bytes_ext; simp [joinS]
  | cons n l ih => rw [List.cons_append, joinS_cons, joinS_cons, ih, app_assoc']
theorem joinS_nil_app (t : ByteArray) : joinS [] ++ t = t := by apply bytes_ext; simp [joinS]
theorem ftail_size {f : Fr} (h : fok f = true) : (ftail f).size ≤ 12 := by
  have hd := (fok_parts h).2.2.2
  unfold ftail; split
  · exact hd
  · show 0 ≤ 12; omega
theorem fenc_size {f : Fr} (h : fok f = true) : 1 ≤ (fenc f).size ∧ (fenc f).size ≤ 160 := by
  have h1 := joinS_size (fints f)
  have h2 := ftail_size h
  have h3 : (fints f).length ≤ 37 := by
    unfold fints; rw [List.length_cons, List.length_append, fhd_len]; have := fnum_le f.k; have := frest_len h; omega
  have h4 : 1 ≤ (joinS (fints f)).size := by
    unfold fints
    rw [joinS_cons, size_app]
    have := encS_size f.k
    have hk := fok_k h
    have : vlen f.k = 1 := by unfold vlen; omega
    omega
  unfold fenc
  rw [size_app]
  omega

theorem cut_joinS (n : Int) (l : List Int) (t : ByteArray) (h : vlen n ≠ 0) : dsz (joinS (n :: l) ++ t) = vlen n ∧ dval (joinS (n :: l) ++ t) = n ∧ (joinS (n :: l) ++ t).extract (vlen n).toNat (joinS (n :: l) ++ t).size = joinS l ++ t := by
  rw [joinS_cons, app_assoc']
  obtain ⟨d1, d2⟩ := dec_enc n (joinS l ++ t) h
  have hz := encS_size n
  exact ⟨d1, d2, cut_front _ _ _ (by omega)⟩
theorem vlen_ok {n : Int} (h : 0 ≤ n ∧ n ≤ 1073741823) : vlen n ≠ 0 ∧ 1 ≤ vlen n ∧ vlen n ≤ 4 := by unfold vlen; omega
theorem joinS_inj : ∀ (l m : List Int) (t u : ByteArray), okAll l = true → okAll m = true → l.length = m.length → joinS l ++ t = joinS m ++ u → l = m ∧ t = u
  | [], [], t, u, _, _, _, h => by rw [joinS_nil_app, joinS_nil_app] at h; exact ⟨rfl, h⟩
  | [], m :: ms, _, _, _, _, h, _ => by simp at h
  | l :: ls, [], _, _, _, _, h, _ => by simp at h
  | n :: l, m :: ms, t, u, hl, hm, hlen, h => by
    obtain ⟨hn, hl⟩ := okAll_cons n l hl
    obtain ⟨hm1, hm⟩ := okAll_cons m ms hm
    obtain ⟨a1, a2, a3⟩ := cut_joinS n l t (vlen_ok hn).1
    obtain ⟨b1, b2, b3⟩ := cut_joinS m ms u (vlen_ok hm1).1
    rw [h] at a1 a2 a3
    have e : n = m := by rw [← a2, b2]
    rw [e] at a3
    rw [b3] at a3
    obtain ⟨c1, c2⟩ := joinS_inj l ms t u hl hm (by simpa using hlen) a3.symm
    exact ⟨by rw [e, c1], c2⟩
/-- The numbers ahead are the same where the bytes are. -/
theorem joinS_peel (l1 l2 m1 m2 : List Int) (t u : ByteArray) (hl : okAll (l1 ++ l2) = true) (hm : okAll (m1 ++ m2) = true) (hlen : l1.length = m1.length) (h : joinS (l1 ++ l2) ++ t = joinS (m1 ++ m2) ++ u) : l1 = m1 ∧ joinS l2 ++ t = joinS m2 ++ u := by
  rw [okAll_app, Bool.and_eq_true] at hl hm
  rw [joinS_app, joinS_app, app_assoc', app_assoc'] at h
  exact joinS_inj l1 m1 _ _ hl.1 hm.1 hlen h
theorem app_inj (a b t u : ByteArray) (hs : a.size = b.size) (h : a ++ t = b ++ u) : a = b ∧ t = u := by
  have hd : a.data.toList ++ t.data.toList = b.data.toList ++ u.data.toList := by
    have := congrArg (fun x : ByteArray => x.data.toList) h
    simpa using this
  have := List.append_inj hd (by rw [size_of_list, size_of_list, hs])
  exact ⟨bytes_ext this.1, bytes_ext this.2⟩
theorem bytes_zero {a : ByteArray} (h : a.size = 0) : a = ⟨#[]⟩ := by
  apply bytes_ext
  have : a.data.toList.length = 0 := by rw [size_of_list]; exact h
  rw [List.length_eq_zero_iff.1 this]
theorem take3_inj {n : Nat} {a b c x y z : Int} (h : [a, b, c].take n = [x, y, z].take n) (hn : n ≤ 3) : (1 ≤ n → a = x) ∧ (2 ≤ n → b = y) ∧ (3 ≤ n → c = z) := by
  have : n = 0 ∨ n = 1 ∨ n = 2 ∨ n = 3 := by omega
  rcases this with rfl | rfl | rfl | rfl
  · exact ⟨by omega, by omega, by omega⟩
  · simp at h; exact ⟨fun _ => h, by omega, by omega⟩
  · simp at h; exact ⟨fun _ => h.1, fun _ => h.2, by omega⟩
  · simp at h; exact ⟨fun _ => h.1, fun _ => h.2.1, fun _ => h.2.2⟩

/-- Two encodings that begin the same bytes are of one frame. -/
theorem fenc_inj {f g : Fr} (hf : fok f = true) (hg : fok g = true) (t u : ByteArray) (h : fenc f ++ t = fenc g ++ u) : f = g ∧ t = u := by
  have of := fints_ok hf
  have og := fints_ok hg
  unfold fenc at h
  rw [app_assoc', app_assoc'] at h
  obtain ⟨h1, h2⟩ := joinS_peel [f.k] (fhd f ++ frest f) [g.k] (fhd g ++ frest g) _ _ of og rfl h
  have hk : f.k = g.k := by simpa using h1
  have of2 := (okAll_cons _ _ of).2
  have og2 := (okAll_cons _ _ og).2
  obtain ⟨h3, h4⟩ := joinS_peel (fhd f) (frest f) (fhd g) (frest g) _ _ of2 og2 (by rw [fhd_len, fhd_len, hk]) h2
  have rf := frest_ok hf
  have rg := frest_ok hg
  obtain ⟨⟨uf1, uf2, uf3⟩, ⟨uf4, uf5⟩, _, _⟩ := fok_parts hf
  obtain ⟨⟨ug1, ug2, ug3⟩, ⟨ug4, ug5⟩, _, _⟩ := fok_parts hg
  unfold fhd at h3
  rw [hk] at h3 uf1 uf2 uf3 uf4 uf5
  obtain ⟨i1, i2, i3⟩ := take3_inj h3 (fnum_le _)
  have ha : f.a = g.a := by by_cases q : 1 ≤ fnum g.k; exact i1 q; rw [uf3 (by omega), ug3 (by omega)]
  have hb : f.b = g.b := by by_cases q : 2 ≤ fnum g.k; exact i2 q; rw [uf2 (by omega), ug2 (by omega)]
  have hc : f.c = g.c := by by_cases q : 3 ≤ fnum g.k; exact i3 q; rw [uf1 (by omega), ug1 (by omega)]
  unfold frest at h4 rf rg
  unfold ftail at h4
  rw [hk] at h4 rf
  by_cases q2 : g.k = 2
  · have q3 : ¬ (g.k = 3 ∨ g.k = 9) := by omega
    rw [if_pos q2] at h4 rf rg
    rw [if_pos q2, if_neg q3, if_neg q3] at h4
    obtain ⟨j1, j2⟩ := joinS_peel [(f.rs.length : Int)] (deltas (-2) f.rs) [(g.rs.length : Int)] (deltas (-2) g.rs) _ _ rf rg rfl h4
    have jl : f.rs.length = g.rs.length := by simp at j1; omega
    obtain ⟨j3, j4⟩ := joinS_inj _ _ _ _ (okAll_cons _ _ rf).2 (okAll_cons _ _ rg).2 (by rw [deltas_len, deltas_len, jl]) j2
    have jr : f.rs = g.rs := by rw [← unde_deltas (-2) f.rs, j3, unde_deltas]
    obtain ⟨_, j5⟩ := app_inj _ _ _ _ rfl j4
    have hd : f.d = g.d := by rw [bytes_zero (uf5 (by omega) (by omega)), bytes_zero (ug5 (by omega) (by omega))]
    exact ⟨fr_ext hk ha hb hc hd jr, j5⟩
  · have jr : f.rs = g.rs := by rw [List.length_eq_zero_iff.1 (uf4 q2), List.length_eq_zero_iff.1 (ug4 q2)]
    rw [if_neg q2] at h4 rf rg
    rw [if_neg q2] at h4
    by_cases q3 : g.k = 3 ∨ g.k = 9
    · rw [if_pos q3] at rf rg
      rw [if_pos q3, if_pos q3, if_pos q3, if_pos q3] at h4
      obtain ⟨j1, j2⟩ := joinS_inj [(f.d.size : Int)] [(g.d.size : Int)] _ _ rf rg rfl h4
      have jl : f.d.size = g.d.size := by simp at j1; omega
      obtain ⟨hd, j5⟩ := app_inj _ _ _ _ jl j2
      exact ⟨fr_ext hk ha hb hc hd jr, j5⟩
    · rw [if_neg q3, if_neg q3, if_neg q3, if_neg q3, joinS_nil_app, joinS_nil_app] at h4
      obtain ⟨_, j5⟩ := app_inj _ _ _ _ rfl h4
      have hd : f.d = g.d := by rw [bytes_zero (uf5 (by omega) (by omega)), bytes_zero (ug5 (by omega) (by omega))]
      exact ⟨fr_ext hk ha hb hc hd jr, j5⟩

end Go.Proofs.Ytifohfclgonhfaa
