/- Chapter 2, plain lists: counting; full sets; a set without one of its ranges. -/
import Derived.Test.YtcjhbcibhcogjaaUnMath
namespace Go.Proofs.Ytcjhbcibhcogjaa
set_option linter.unusedVariables false
set_option linter.unusedSimpArgs false

/-- How many of the k numbers from a on have p. -/
def cntP (p : Int → Bool) (a : Int) : Nat → Int
  | 0 => 0
  | k + 1 => cntP p a k + (if p (a + k) then 1 else 0)
theorem cntP_congr {p q : Int → Bool} {a : Int} : ∀ {k : Nat}, (∀ i, a ≤ i → i < a + k → p i = q i) → cntP p a k = cntP q a k
  | 0, _ => rfl
  | k + 1, h => by
    rw [cntP, cntP, cntP_congr (k := k) (fun i h1 h2 => h i h1 (by omega)), h (a + k) (by omega) (by omega)]
theorem cntP_add {p q r : Int → Bool} {a : Int} : ∀ {k : Nat}, (∀ i, a ≤ i → i < a + k → p i = (q i || r i) ∧ (q i && r i) = false) → cntP p a k = cntP q a k + cntP r a k
  | 0, _ => rfl
  | k + 1, h => by
    rw [cntP, cntP, cntP, cntP_add (k := k) (fun i h1 h2 => h i h1 (by omega))]
    obtain ⟨h1, h2⟩ := h (a + k) (by omega) (by omega)
    rw [h1]
    cases hq : q (a + k) <;> cases hr : r (a + k) <;> rw [hq, hr] at h2 <;> simp at h2 ⊢ <;> omega
theorem cntP_cat (p : Int → Bool) (a : Int) (k : Nat) : ∀ m : Nat, cntP p a (k + m) = cntP p a k + cntP p (a + k) m
  | 0 => by simp [cntP]
  | m + 1 => by
    rw [← Nat.add_assoc, cntP, cntP_cat p a k m, cntP, show a + ((k + m : Nat) : Int) = a + k + m by omega]
    omega
theorem cntP_none {p : Int → Bool} {a : Int} : ∀ {k : Nat}, (∀ i, a ≤ i → i < a + k → p i = false) → cntP p a k = 0
  | 0, _ => rfl
  | k + 1, h => by
    rw [cntP, cntP_none (k := k) (fun i h1 h2 => h i h1 (by omega)), h (a + k) (by omega) (by omega)]; rfl
theorem cntP_all {p : Int → Bool} {a : Int} : ∀ {k : Nat}, (∀ i, a ≤ i → i < a + k → p i = true) → cntP p a k = k
  | 0, _ => rfl
  | k + 1, h => by
    rw [cntP, cntP_all (k := k) (fun i h1 h2 => h i h1 (by omega)), h (a + k) (by omega) (by omega)]; simp
/-- p within bounds. -/
theorem cntP_part {p : Int → Bool} (n a b c d : Nat) (hn : n = d - a) (hab : a ≤ b) (hbc : b ≤ c) (hcd : c ≤ d) :
    cntP (fun i => decide ((b : Int) ≤ i ∧ i < c) && p i) a n = cntP p b (c - b) := by
  have e : n = (b - a) + ((c - b) + (d - c)) := by omega
  rw [e, cntP_cat, cntP_cat, show (a : Int) + ((b - a : Nat) : Int) = b by omega, show (b : Int) + ((c - b : Nat) : Int) = c by omega]
  rw [cntP_none (k := b - a) (fun i h1 h2 => by rw [decide_eq_false (by omega)]; rfl), cntP_none (k := d - c) (fun i h1 h2 => by rw [decide_eq_false (by omega)]; rfl), cntP_congr (q := p) (k := c - b) (fun i h1 h2 => by rw [decide_eq_true (by omega)]; rfl)]
  omega
/-- The count of a set is the number of its elements. -/
theorem rcnt_eq : ∀ {l : List (Int × Int)} {b : Int}, 0 ≤ b → vfrom b l = true → rcnt l = cntP (rhas l) 0 1000
  | [], b, _, _ => (cntP_none (fun i _ _ => rfl)).symm
  | r :: t, b, hb, h => by
    rw [vfrom_cons] at h
    have ih := rcnt_eq (l := t) (b := r.2 + 2) (by omega) h.2
    rw [rcnt, ih]
    rw [cntP_add (p := rhas (r :: t)) (q := fun i => decide (r.1 ≤ i ∧ i ≤ r.2)) (r := rhas t) (fun i h1 h2 => ⟨rfl, by
      rw [Bool.and_eq_false_iff]
      cases hh : rhas t i with
      | false => exact .inr rfl
      | true => have := rhas_ge h.2 hh; exact .inl (decide_eq_false (by omega))⟩)]
    refine congrArg (fun z => z + cntP (rhas t) 0 1000) (?_ : r.2 - r.1 + 1 = cntP (fun i => decide (r.1 ≤ i ∧ i ≤ r.2)) 0 1000)
    have e := cntP_part (p := fun _ => true) 1000 0 r.1.toNat (r.2 + 1).toNat 1000 rfl (by omega) (by omega) (by omega)
    rw [cntP_all (p := fun _ => true) (fun _ _ _ => rfl)] at e
    rw [show ((0 : Nat) : Int) = 0 from rfl] at e
    rw [cntP_congr (q := fun i => decide ((r.1.toNat : Int) ≤ i ∧ i < ((r.2 + 1).toNat : Int)) && true) (fun i h1 h2 => by
      rw [Bool.and_true, Bool.eq_iff_iff, decide_eq_true_eq, decide_eq_true_eq]; omega)]
    rw [e]
    omega
theorem cnt_add {l : List (Int × Int)} {n : Int} (hv : vfrom 0 l = true) (h0 : 0 ≤ n) (h1 : n ≤ 999) : rcnt (ladd l n n) = rcnt l + (if rhas l n then 0 else 1) := by
  obtain ⟨p1, _, p3⟩ := ladd_props hv h0 (Int.le_refl n) h1
  rw [rcnt_eq (Int.le_refl 0) p1, rcnt_eq (Int.le_refl 0) hv]
  cases hh : rhas l n with
  | true =>
    rw [if_pos rfl, Int.add_zero]
    refine cntP_congr fun i _ _ => ?_
    rw [Bool.eq_iff_iff, p3]
    constructor
    · rintro (k | k)
      · exact k
      · rw [show i = n by omega]; exact hh
    · exact .inl
  | false =>
    rw [if_neg (by simp)]
    rw [cntP_add (q := rhas l) (r := fun i => decide ((n.toNat : Int) ≤ i ∧ i < ((n + 1).toNat : Int)) && true) (fun i h2 h3 => ⟨by
      rw [Bool.eq_iff_iff, p3, Bool.or_eq_true, Bool.and_true, decide_eq_true_eq]
      constructor
      · rintro (k | k)
        · exact .inl k
        · exact .inr (by omega)
      · rintro (k | k)
        · exact .inl k
        · exact .inr (by omega), by
      rw [Bool.and_true, Bool.and_eq_false_iff]
      by_cases hi : i = n
      · rw [hi]; exact .inl hh
      · exact .inr (decide_eq_false (by omega))⟩)]
    refine congrArg (fun z => cntP (rhas l) 0 1000 + z) (?_ : cntP (fun i => decide ((n.toNat : Int) ≤ i ∧ i < ((n + 1).toNat : Int)) && true) 0 1000 = 1)
    have e := cntP_part (p := fun _ => true) 1000 0 n.toNat (n + 1).toNat 1000 rfl (by omega) (by omega) (by omega)
    rw [cntP_all (p := fun _ => true) (fun _ _ _ => rfl)] at e
    rw [show ((0 : Nat) : Int) = 0 from rfl] at e
    rw [e]
    omega
theorem cnt_rem {l : List (Int × Int)} {lo hi : Int} (hv : vfrom 0 l = true) (h0 : 0 ≤ lo) (h1 : lo ≤ hi) (h2 : hi ≤ 999) : rcnt l - rcnt (lrem l lo hi) = cntP (rhas l) lo (hi + 1 - lo).toNat := by
  have p1 := lrem_valid l lo hi 0 hv h1
  have p3 := fun n => lrem_has l lo hi 0 n hv h1
  rw [rcnt_eq (Int.le_refl 0) p1, rcnt_eq (Int.le_refl 0) hv]
  have e := cntP_part (p := rhas l) 1000 0 lo.toNat (hi + 1).toNat 1000 rfl (by omega) (by omega) (by omega)
  rw [show ((0 : Nat) : Int) = 0 from rfl, show ((lo.toNat : Nat) : Int) = lo by omega, show (hi + 1).toNat - lo.toNat = (hi + 1 - lo).toNat by omega] at e
  rw [← e]
  rw [cntP_add (p := rhas l) (q := rhas (lrem l lo hi)) (r := fun i => decide (lo ≤ i ∧ i < ((hi + 1).toNat : Int)) && rhas l i) (fun i h3 h4 => ⟨by
    rw [Bool.eq_iff_iff, Bool.or_eq_true, Bool.and_eq_true, p3, decide_eq_true_eq]
    constructor
    · intro k
      by_cases z : lo ≤ i ∧ i ≤ hi
      · exact .inr ⟨by omega, k⟩
      · exact .inl ⟨k, z⟩
    · rintro (k | k)
      · exact k.1
      · exact k.2, by
    rw [Bool.and_eq_false_iff]
    cases hh : rhas (lrem l lo hi) i with
    | false => exact .inl rfl
    | true =>
      right
      have := ((p3 i).1 hh).2
      rw [decide_eq_false (by omega)]
      rfl⟩)]
  omega
theorem rcnt_bnd {l : List (Int × Int)} (hv : vfrom 0 l = true) : 0 ≤ rcnt l ∧ rcnt l ≤ 1000 := by
  rw [rcnt_eq (Int.le_refl 0) hv]
  have : ∀ (p : Int → Bool) (a : Int) (k : Nat), 0 ≤ cntP p a k ∧ cntP p a k ≤ k := by
    intro p a k
    induction k with
    | zero => simp [cntP]
    | succ k ih => rw [cntP]; split <;> omega
  have := this (rhas l) 0 1000
  omega

theorem cntP_le (p : Int → Bool) (a : Int) (k : Nat) : 0 ≤ cntP p a k ∧ cntP p a k ≤ k := by
  induction k with
  | zero => simp [cntP]
  | succ k ih => rw [cntP]; split <;> omega

/-! ### Full sets -/
theorem lrem_len_far : ∀ {l : List (Int × Int)} {lo hi b : Int}, vfrom b l = true → hi < b → lo ≤ hi → (lrem l lo hi).length = l.length
  | [], lo, hi, b, _, _, _ => rfl
  | r :: t, lo, hi, b, hv, hb, hl => by
    rw [vfrom_cons] at hv
    have ih := lrem_len_far (lo := lo) (hi := hi) hv.2 (by omega) hl
    rw [lrem_cons, List.length_append, ih, List.length_cons]
    unfold remOne
    rw [if_neg (by omega), if_pos (by omega)]
    simp; omega
theorem lrem_len1 : ∀ {l : List (Int × Int)} {lo hi b : Int}, vfrom b l = true → lo ≤ hi → (lrem l lo hi).length ≤ l.length + 1
  | [], lo, hi, b, _, _ => by simp [lrem]
  | r :: t, lo, hi, b, hv, hl => by
    rw [vfrom_cons] at hv
    rw [lrem_cons, List.length_append, List.length_cons]
    by_cases h : hi < r.2
    · have := lrem_len_far (lo := lo) (hi := hi) hv.2 (by omega) hl
      have h1 : (remOne lo hi r).length ≤ 2 := by unfold remOne; rw [if_pos h]; split <;> simp
      omega
    · have := lrem_len1 (lo := lo) (hi := hi) hv.2 hl
      have h1 : (remOne lo hi r).length ≤ 1 := by unfold remOne; rw [if_neg h]; split <;> simp
      omega

/-! ### Without one range -/
theorem vfrom_app : ∀ (l m : List (Int × Int)) (b : Int), vfrom b (l ++ m) = true ↔ vfrom b l = true ∧ vfrom (nextFrom b l) m = true
  | [], m, b => by simp [vfrom, nextFrom]
  | r :: t, m, b => by
    rw [List.cons_append, vfrom_cons, vfrom_cons, vfrom_app t m, nextFrom]
    simp only [and_assoc]
theorem less_valid {l : List (Int × Int)} {k : Nat} (h : rvalid l = true) (hk : k < l.length) : rvalid (l.take k ++ l.drop (k + 1)) = true := by
  obtain ⟨hv, hl⟩ := rvalid_parts h
  have e : l = l.take (k + 1) ++ l.drop (k + 1) := (List.take_append_drop _ _).symm
  rw [e, vfrom_app, take_get l k hk, vfrom_app, nextFrom_snoc] at hv
  obtain ⟨⟨h1, h2⟩, h3⟩ := hv
  rw [vfrom_cons] at h2
  unfold rvalid
  rw [(vfrom_app _ _ _).2 ⟨h1, vfrom_mono h3 (by omega)⟩, decide_eq_true (by simp; omega)]
  rfl
theorem twice_invalid {l : List (Int × Int)} {k : Nat} (h : rvalid l = true) (hk : k < l.length) : rvalid (l.take (k + 1) ++ l.drop k) = false := by
  obtain ⟨hv, hl⟩ := rvalid_parts h
  unfold rvalid
  rw [Bool.and_eq_false_iff]
  left
  rw [Bool.eq_false_iff]
  intro ha
  rw [vfrom_app, take_get l k hk, nextFrom_snoc, List.drop_eq_getElem_cons hk, vfrom_cons] at ha
  have e : l.getD k (0, 0) = l[k] := by rw [List.getD_eq_getElem?_getD, List.getElem?_eq_getElem hk]; rfl
  rw [e] at ha
  omega

end Go.Proofs.Ytcjhbcibhcogjaa
