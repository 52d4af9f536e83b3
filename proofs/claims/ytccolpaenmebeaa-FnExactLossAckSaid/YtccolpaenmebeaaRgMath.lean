/- Chapter 2, plain lists: sets of numbers as lists of ranges; what adding and removing does; a set has one list. -/
import Init
namespace Go.Proofs.Ytccolpaenmebeaa
set_option linter.unusedVariables false
set_option linter.unusedSimpArgs false

/-- Ranges in ascending order from b on, none touching the one before. -/
def vfrom : Int → List (Int × Int) → Bool
  | _, [] => true
  | b, r :: t => decide (b ≤ r.1 ∧ r.1 ≤ r.2 ∧ r.2 ≤ 999) && vfrom (r.2 + 2) t
def rvalid (l : List (Int × Int)) : Bool := vfrom 0 l && decide (l.length ≤ 16)
def rhas : List (Int × Int) → Int → Bool
  | [], _ => false
  | r :: t, n => decide (r.1 ≤ n ∧ n ≤ r.2) || rhas t n

theorem vfrom_cons {b : Int} {r : Int × Int} {t : List (Int × Int)} : vfrom b (r :: t) = true ↔ (b ≤ r.1 ∧ r.1 ≤ r.2 ∧ r.2 ≤ 999) ∧ vfrom (r.2 + 2) t = true := by
  rw [vfrom, Bool.and_eq_true, decide_eq_true_eq]
theorem vfrom_mono {b b' : Int} : ∀ {l : List (Int × Int)}, vfrom b l = true → b' ≤ b → vfrom b' l = true
  | [], _, _ => rfl
  | r :: t, h, hb => by
    rw [vfrom_cons] at h ⊢
    exact ⟨⟨by omega, h.1.2⟩, h.2⟩
theorem rhas_cons {r : Int × Int} {t : List (Int × Int)} {n : Int} : rhas (r :: t) n = true ↔ (r.1 ≤ n ∧ n ≤ r.2) ∨ rhas t n = true := by
  rw [rhas, Bool.or_eq_true, decide_eq_true_eq]
theorem rhas_nil {n : Int} : rhas [] n = true ↔ False := by simp [rhas]
theorem rhas_app {l m : List (Int × Int)} {n : Int} : rhas (l ++ m) n = true ↔ rhas l n = true ∨ rhas m n = true := by
  induction l with
  | nil => simp [rhas]
  | cons r t ih => rw [List.cons_append, rhas_cons, rhas_cons, ih]; exact or_assoc.symm
theorem rhas_ge {b : Int} : ∀ {l : List (Int × Int)} {n : Int}, vfrom b l = true → rhas l n = true → b ≤ n ∧ n ≤ 999
  | [], n, _, h => by simp [rhas] at h
  | r :: t, n, hv, h => by
    rw [vfrom_cons] at hv
    rcases rhas_cons.1 h with h | h
    · omega
    · have := rhas_ge hv.2 h; omega

/-- A set has one list. -/
theorem vfrom_ext : ∀ {b : Int} {l m : List (Int × Int)}, vfrom b l = true → vfrom b m = true → (∀ n, rhas l n = true ↔ rhas m n = true) → l = m
  | b, [], [], _, _, _ => rfl
  | b, [], s :: u, _, hm, h => by
    rw [vfrom_cons] at hm
    have := (h s.1).2 (rhas_cons.2 (.inl (by omega)))
    simp [rhas] at this
  | b, r :: t, [], hl, _, h => by
    rw [vfrom_cons] at hl
    have := (h r.1).1 (rhas_cons.2 (.inl (by omega)))
    simp [rhas] at this
  | b, r :: t, s :: u, hl, hm, h => by
    have hl' := hl
    have hm' := hm
    rw [vfrom_cons] at hl hm
    have e1 : r.1 = s.1 := by
      have a := rhas_cons.1 ((h r.1).1 (rhas_cons.2 (.inl (by omega))))
      have c := rhas_cons.1 ((h s.1).2 (rhas_cons.2 (.inl (by omega))))
      rcases a with a | a
      · rcases c with c | c
        · omega
        · have := rhas_ge hl.2 c; omega
      · rcases c with c | c
        · have := rhas_ge hm.2 a; omega
        · have := rhas_ge hl.2 c; have := rhas_ge hm.2 a; omega
    have e2 : r.2 = s.2 := by
      rcases Int.lt_trichotomy r.2 s.2 with k | k | k
      · exfalso
        have c := rhas_cons.1 ((h (r.2 + 1)).2 (rhas_cons.2 (.inl (by omega))))
        rcases c with c | c
        · omega
        · have := rhas_ge hl.2 c; omega
      · exact k
      · exfalso
        have c := rhas_cons.1 ((h (s.2 + 1)).1 (rhas_cons.2 (.inl (by omega))))
        rcases c with c | c
        · omega
        · have := rhas_ge hm.2 c; omega
    have e : r = s := Prod.ext e1 e2
    subst e
    have ht : t = u := vfrom_ext hl.2 hm.2 fun n => by
      constructor
      · intro k
        have g := rhas_ge hl.2 k
        rcases rhas_cons.1 ((h n).1 (rhas_cons.2 (.inr k))) with c | c
        · omega
        · exact c
      · intro k
        have g := rhas_ge hm.2 k
        rcases rhas_cons.1 ((h n).2 (rhas_cons.2 (.inr k))) with c | c
        · omega
        · exact c
    rw [ht]

/-- Where the next range may begin. -/
def nextFrom : Int → List (Int × Int) → Int
  | b, [] => b
  | _, r :: t => nextFrom (r.2 + 2) t
theorem vfrom_snoc : ∀ (l : List (Int × Int)) (b : Int) (r : Int × Int), vfrom b (l ++ [r]) = true ↔ vfrom b l = true ∧ (nextFrom b l ≤ r.1 ∧ r.1 ≤ r.2 ∧ r.2 ≤ 999)
  | [], b, r => by
    rw [List.nil_append, vfrom_cons]
    simp [vfrom, nextFrom]
  | q :: t, b, r => by
    rw [List.cons_append, vfrom_cons, vfrom_cons, vfrom_snoc t (q.2 + 2) r, nextFrom]
    constructor
    · rintro ⟨h1, h2, h3⟩
      exact ⟨⟨h1, h2⟩, h3⟩
    · rintro ⟨⟨h1, h2⟩, h3⟩
      exact ⟨h1, h2, h3⟩
theorem nextFrom_snoc : ∀ (l : List (Int × Int)) (b : Int) (r : Int × Int), nextFrom b (l ++ [r]) = r.2 + 2
  | [], b, r => rfl
  | q :: t, b, r => by rw [List.cons_append, nextFrom, nextFrom_snoc t _ r]
theorem vfrom_part : ∀ (l m : List (Int × Int)) (b : Int), vfrom b (l ++ m) = true → vfrom b l = true
  | [], m, b, _ => rfl
  | q :: t, m, b, h => by
    rw [List.cons_append, vfrom_cons] at h
    rw [vfrom_cons]
    exact ⟨h.1, vfrom_part t m _ h.2⟩
theorem nextFrom_ge : ∀ (l : List (Int × Int)) (b : Int), vfrom b l = true → b ≤ nextFrom b l
  | [], b, _ => Int.le_refl _
  | q :: t, b, h => by
    rw [vfrom_cons] at h
    have := nextFrom_ge t _ h.2
    rw [nextFrom]
    omega
theorem take_get (l : List (Int × Int)) (k : Nat) (h : k < l.length) : l.take (k + 1) = l.take k ++ [l.getD k (0, 0)] := by
  rw [List.take_succ_eq_append_getElem h, List.getD_eq_getElem?_getD, List.getElem?_eq_getElem h]; rfl
/-- One range more. -/
theorem valid_step (l : List (Int × Int)) (k : Nat) (h : k < l.length) (hv : vfrom 0 (l.take k) = true) :
    vfrom 0 (l.take (k + 1)) = true ↔ (0 ≤ (l.getD k (0, 0)).1 ∧ (l.getD k (0, 0)).1 ≤ (l.getD k (0, 0)).2 ∧ (l.getD k (0, 0)).2 ≤ 999 ∧ (0 < k → (l.getD (k - 1) (0, 0)).2 + 2 ≤ (l.getD k (0, 0)).1)) := by
  rw [take_get l k h, vfrom_snoc]
  by_cases k0 : k = 0
  · subst k0
    simp [vfrom, nextFrom]
  · have e : l.take k = l.take (k - 1) ++ [l.getD (k - 1) (0, 0)] := by
      have := take_get l (k - 1) (by omega)
      rwa [show k - 1 + 1 = k from by omega] at this
    have hn : nextFrom 0 (l.take k) = (l.getD (k - 1) (0, 0)).2 + 2 := by rw [e, nextFrom_snoc]
    have hp : 0 ≤ (l.getD (k - 1) (0, 0)).2 := by
      rw [e] at hv
      have := (vfrom_snoc _ _ _).1 hv
      have hnn := nextFrom_ge (l.take (k - 1)) 0 this.1
      omega
    rw [hn]
    constructor
    · rintro ⟨_, h1, h2, h3⟩
      exact ⟨by omega, h2, h3, fun _ => h1⟩
    · rintro ⟨h1, h2, h3, h4⟩
      exact ⟨hv, h4 (by omega), h2, h3⟩
theorem valid_last (l : List (Int × Int)) (k : Nat) (h : k < l.length) (h0 : 0 < k) (hv : vfrom 0 (l.take k) = true) : 0 ≤ (l.getD (k - 1) (0, 0)).2 ∧ (l.getD (k - 1) (0, 0)).2 ≤ 999 := by
  have e : l.take k = l.take (k - 1) ++ [l.getD (k - 1) (0, 0)] := by
    have := take_get l (k - 1) (by omega)
    rwa [show k - 1 + 1 = k from by omega] at this
  rw [e] at hv
  have := (vfrom_snoc _ _ _).1 hv
  have hnn := nextFrom_ge (l.take (k - 1)) 0 this.1
  omega
theorem valid_bad (l : List (Int × Int)) (k : Nat) (h : k < l.length) (hv : ¬ vfrom 0 (l.take (k + 1)) = true) : vfrom 0 l = false := by
  rw [Bool.eq_false_iff]
  intro ha
  apply hv
  have : l = l.take (k + 1) ++ l.drop (k + 1) := (List.take_append_drop _ _).symm
  rw [this] at ha
  exact vfrom_part _ _ _ ha

/-! ### Adding -/
def addStep (s : List (Int × Int) × Bool × Int × Int) (r : Int × Int) : List (Int × Int) × Bool × Int × Int :=
  if r.2 < s.2.2.1 - 1 then (s.1 ++ [r], s.2.1, s.2.2.1, s.2.2.2)
  else if s.2.2.2 + 1 < r.1 then ((if s.2.1 then s.1 else s.1 ++ [(s.2.2.1, s.2.2.2)]) ++ [r], true, s.2.2.1, s.2.2.2)
  else (s.1, s.2.1, min s.2.2.1 r.1, max s.2.2.2 r.2)
def addEnd (s : List (Int × Int) × Bool × Int × Int) : List (Int × Int) := if s.2.1 then s.1 else s.1 ++ [(s.2.2.1, s.2.2.2)]
def ladd (l : List (Int × Int)) (lo hi : Int) : List (Int × Int) := addEnd (l.foldl addStep ([], false, lo, hi))
def ins : List (Int × Int) → Int → Int → List (Int × Int)
  | [], lo, hi => [(lo, hi)]
  | r :: t, lo, hi => if r.2 < lo - 1 then r :: ins t lo hi else if hi + 1 < r.1 then (lo, hi) :: r :: t else ins t (min lo r.1) (max hi r.2)

theorem fold_put : ∀ (l : List (Int × Int)) (out : List (Int × Int)) (lo hi b : Int), vfrom b l = true → hi + 1 < b → l.foldl addStep (out, true, lo, hi) = (out ++ l, true, lo, hi)
  | [], out, lo, hi, b, _, _ => by simp
  | r :: t, out, lo, hi, b, hv, hb => by
    rw [vfrom_cons] at hv
    have e : addStep (out, true, lo, hi) r = (out ++ [r], true, lo, hi) := by
      unfold addStep
      by_cases h1 : r.2 < lo - 1
      · simp [h1]
      · have h2 : hi + 1 < r.1 := by omega
        simp [h1, h2]
    rw [List.foldl_cons, e, fold_put t (out ++ [r]) lo hi (r.2 + 2) hv.2 (by omega)]
    simp
theorem fold_ins : ∀ (l : List (Int × Int)) (out : List (Int × Int)) (lo hi b : Int), vfrom b l = true → addEnd (l.foldl addStep (out, false, lo, hi)) = out ++ ins l lo hi
  | [], out, lo, hi, b, _ => by simp [addEnd, ins]
  | r :: t, out, lo, hi, b, hv => by
    rw [vfrom_cons] at hv
    rw [List.foldl_cons]
    by_cases h1 : r.2 < lo - 1
    · have e : addStep (out, false, lo, hi) r = (out ++ [r], false, lo, hi) := by simp [addStep, h1]
      rw [e, fold_ins t _ lo hi _ hv.2, ins, if_pos h1]
      simp
    · by_cases h2 : hi + 1 < r.1
      · have e : addStep (out, false, lo, hi) r = (out ++ [(lo, hi)] ++ [r], true, lo, hi) := by simp [addStep, h1, h2]
        rw [e, fold_put t _ lo hi _ hv.2 (by omega), ins, if_neg h1, if_pos h2]
        simp [addEnd]
      · have e : addStep (out, false, lo, hi) r = (out, false, min lo r.1, max hi r.2) := by simp [addStep, h1, h2]
        rw [e, fold_ins t _ _ _ _ hv.2, ins, if_neg h1, if_neg h2]
theorem ladd_ins {l : List (Int × Int)} {b : Int} (lo hi : Int) (h : vfrom b l = true) : ladd l lo hi = ins l lo hi := by
  unfold ladd; rw [fold_ins l [] lo hi b h, List.nil_append]
theorem ins_has : ∀ (l : List (Int × Int)) (lo hi b n : Int), vfrom b l = true → lo ≤ hi → (rhas (ins l lo hi) n = true ↔ rhas l n = true ∨ (lo ≤ n ∧ n ≤ hi))
  | [], lo, hi, b, n, _, _ => by rw [ins, rhas_cons, rhas_nil]; simp
  | r :: t, lo, hi, b, n, hv, hl => by
    rw [vfrom_cons] at hv
    rw [ins]
    by_cases h1 : r.2 < lo - 1
    · rw [if_pos h1, rhas_cons, ins_has t lo hi _ n hv.2 hl, rhas_cons, or_assoc]
    · rw [if_neg h1]
      by_cases h2 : hi + 1 < r.1
      · rw [if_pos h2, rhas_cons, rhas_cons]
        constructor
        · rintro (h | h | h)
          · exact .inr h
          · exact .inl (.inl h)
          · exact .inl (.inr h)
        · rintro ((h | h) | h)
          · exact .inr (.inl h)
          · exact .inr (.inr h)
          · exact .inl h
      · rw [if_neg h2, ins_has t _ _ _ n hv.2 (by omega), rhas_cons]
        constructor
        · rintro (h | h)
          · exact .inl (.inr h)
          · by_cases k : lo ≤ n ∧ n ≤ hi
            · exact .inr k
            · exact .inl (.inl (by omega))
        · rintro ((h | h) | h)
          · exact .inr (by omega)
          · exact .inl h
          · exact .inr (by omega)
theorem ins_valid : ∀ (l : List (Int × Int)) (lo hi b : Int), vfrom b l = true → b ≤ lo → lo ≤ hi → hi ≤ 999 → vfrom b (ins l lo hi) = true
  | [], lo, hi, b, _, h1, h2, h3 => by rw [ins, vfrom_cons]; exact ⟨⟨h1, h2, h3⟩, rfl⟩
  | r :: t, lo, hi, b, hv, h1, h2, h3 => by
    rw [vfrom_cons] at hv
    rw [ins]
    by_cases k1 : r.2 < lo - 1
    · rw [if_pos k1, vfrom_cons]
      exact ⟨hv.1, ins_valid t lo hi _ hv.2 (by omega) h2 h3⟩
    · rw [if_neg k1]
      by_cases k2 : hi + 1 < r.1
      · rw [if_pos k2, vfrom_cons, vfrom_cons]
        exact ⟨⟨h1, h2, h3⟩, ⟨by simp only; omega, hv.1.2⟩, hv.2⟩
      · rw [if_neg k2]
        exact ins_valid t _ _ b (vfrom_mono hv.2 (by omega)) (by omega) (by omega) (by omega)
theorem ins_len : ∀ (l : List (Int × Int)) (lo hi : Int), (ins l lo hi).length ≤ l.length + 1
  | [], lo, hi => by simp [ins]
  | r :: t, lo, hi => by
    rw [ins]
    split
    · have := ins_len t lo hi; simp; omega
    · split
      · simp
      · have := ins_len t (min lo r.1) (max hi r.2); simp; omega

/-! ### Removing -/
def remOne (lo hi : Int) (r : Int × Int) : List (Int × Int) := (if r.1 < lo then [(r.1, min r.2 (lo - 1))] else []) ++ (if hi < r.2 then [(max r.1 (hi + 1), r.2)] else [])
def lrem (l : List (Int × Int)) (lo hi : Int) : List (Int × Int) := l.flatMap (remOne lo hi)
theorem lrem_cons (r : Int × Int) (t : List (Int × Int)) (lo hi : Int) : lrem (r :: t) lo hi = remOne lo hi r ++ lrem t lo hi := by simp [lrem]
theorem remOne_has (lo hi n : Int) (r : Int × Int) (hr : r.1 ≤ r.2) (hl : lo ≤ hi) : rhas (remOne lo hi r) n = true ↔ (r.1 ≤ n ∧ n ≤ r.2) ∧ ¬ (lo ≤ n ∧ n ≤ hi) := by
  unfold remOne
  rw [rhas_app]
  by_cases h1 : r.1 < lo
  · by_cases h2 : hi < r.2
    · rw [if_pos h1, if_pos h2, rhas_cons, rhas_cons, rhas_nil]; simp only [or_false]; omega
    · rw [if_pos h1, if_neg h2, rhas_cons, rhas_nil]; simp only [or_false]; omega
  · by_cases h2 : hi < r.2
    · rw [if_neg h1, if_pos h2, rhas_cons, rhas_nil]; simp only [or_false, false_or]; omega
    · rw [if_neg h1, if_neg h2, rhas_nil]; simp only [or_false, false_iff]; omega
theorem lrem_has : ∀ (l : List (Int × Int)) (lo hi b n : Int), vfrom b l = true → lo ≤ hi → (rhas (lrem l lo hi) n = true ↔ rhas l n = true ∧ ¬ (lo ≤ n ∧ n ≤ hi))
  | [], lo, hi, b, n, _, _ => by simp [lrem, rhas]
  | r :: t, lo, hi, b, n, hv, hl => by
    rw [vfrom_cons] at hv
    rw [lrem_cons, rhas_app, remOne_has lo hi n r hv.1.2.1 hl, lrem_has t lo hi _ n hv.2 hl, rhas_cons]
    constructor
    · rintro (⟨h, k⟩ | ⟨h, k⟩)
      · exact ⟨.inl h, k⟩
      · exact ⟨.inr h, k⟩
    · rintro ⟨h | h, k⟩
      · exact .inl ⟨h, k⟩
      · exact .inr ⟨h, k⟩
theorem lrem_valid : ∀ (l : List (Int × Int)) (lo hi b : Int), vfrom b l = true → lo ≤ hi → vfrom b (lrem l lo hi) = true
  | [], lo, hi, b, _, _ => rfl
  | r :: t, lo, hi, b, hv, hl => by
    rw [vfrom_cons] at hv
    have ih := lrem_valid t lo hi _ hv.2 hl
    rw [lrem_cons]
    unfold remOne
    by_cases h1 : r.1 < lo
    · by_cases h2 : hi < r.2
      · rw [if_pos h1, if_pos h2]
        simp only [List.cons_append, List.nil_append]
        rw [vfrom_cons, vfrom_cons]
        exact ⟨⟨hv.1.1, by simp only; omega, by simp only; omega⟩, ⟨by simp only; omega, by simp only; omega, by simp only; omega⟩, ih⟩
      · rw [if_pos h1, if_neg h2]
        simp only [List.cons_append, List.nil_append]
        rw [vfrom_cons]
        exact ⟨⟨hv.1.1, by simp only; omega, by simp only; omega⟩, vfrom_mono ih (by simp only; omega)⟩
    · by_cases h2 : hi < r.2
      · rw [if_neg h1, if_pos h2]
        simp only [List.cons_append, List.nil_append]
        rw [vfrom_cons]
        exact ⟨⟨by simp only; omega, by simp only; omega, by simp only; omega⟩, vfrom_mono ih (by simp only; omega)⟩
      · rw [if_neg h1, if_neg h2]
        simp only [List.nil_append]
        exact vfrom_mono ih (by omega)

/-! ### Counting -/
def rcnt : List (Int × Int) → Int
  | [] => 0
  | r :: t => (r.2 - r.1 + 1) + rcnt t
/-- How many of the k numbers from a on are in the set. -/
def cntIn (l : List (Int × Int)) (a : Int) : Nat → Int
  | 0 => 0
  | k + 1 => cntIn l a k + (if rhas l (a + k) then 1 else 0)

end Go.Proofs.Ytccolpaenmebeaa
