/- Pieces that are built byte by byte. -/
import Derived.Test.YthdhjjbgegcncaaRcLaw
namespace Go.Proofs.Ythdhjjbgegcncaa
open Go.RowKit
set_option linter.unusedVariables false
set_option linter.unusedSimpArgs false

theorem pend_cons (a b : Int) {l : List Qc} (h : l ≠ []) : pend a l = pend b l := by
  cases l with
  | nil => exact absurd rfl h
  | cons p t => rfl
theorem pok_snoc : ∀ {lo : Int} {l : List Qc} {q : Qc}, pok lo (l ++ [q]) ↔ pok lo l ∧ (if l = [] then lo else pend lo l + 1) ≤ q.1 ∧ 0 < q.2.size
  | lo, [], q => by
    simp only [List.nil_append, pok, if_true, true_and, and_true]
  | lo, p :: t, q => by
    have ih := pok_snoc (lo := p.1 + (p.2.size : Int) + 1) (l := t) (q := q)
    simp only [List.cons_append, pok, ih, reduceCtorEq, if_false, pend]
    by_cases ht : t = []
    · subst ht
      simp only [if_true, pend]
      constructor
      · rintro ⟨h1, h2, h3, h4, h5⟩; exact ⟨⟨h1, h2, h3⟩, h4, h5⟩
      · rintro ⟨⟨h1, h2, h3⟩, h4, h5⟩; exact ⟨h1, h2, h3, h4, h5⟩
    · rw [if_neg ht, pend_cons (p.1 + (p.2.size : Int) + 1) (p.1 + (p.2.size : Int)) ht]
      constructor
      · rintro ⟨h1, h2, h3, h4, h5⟩; exact ⟨⟨h1, h2, h3⟩, h4, h5⟩
      · rintro ⟨⟨h1, h2, h3⟩, h4, h5⟩; exact ⟨h1, h2, h3, h4, h5⟩
theorem pok_last {lo : Int} {l : List Qc} {q : Qc} (h : pok lo (l ++ [q])) : lo ≤ q.1 := by
  obtain ⟨h1, h2, h3⟩ := pok_snoc.1 h
  split at h2
  · exact h2
  · rename_i hn
    cases l with
    | nil => exact absurd rfl hn
    | cons p t =>
      have := pend_ge (rd := p.1 + (p.2.size : Int)) h1.2.2 (by omega)
      have := h1.1
      unfold pend at h2
      omega
theorem pat_snoc : ∀ {lo : Int} {l : List Qc} {q : Qc} (n : Nat), pok lo (l ++ [q]) → pat (l ++ [q]) n = if pin q n then dat q.2 ((n : Int) - q.1).toNat else pat l n
  | lo, [], q, n, _ => rfl
  | lo, p :: t, q, n, h => by
    have h3 : pok (p.1 + (p.2.size : Int) + 1) (t ++ [q]) := h.2.2
    have ih := pat_snoc n h3
    have hq := pok_last h3
    show (if pin p n then dat p.2 ((n : Int) - p.1).toNat else pat (t ++ [q]) n) = if pin q n then _ else (if pin p n then dat p.2 ((n : Int) - p.1).toNat else pat t n)
    rw [ih]
    by_cases hp : pin p n
    · rw [if_pos hp, if_pos hp, if_neg (fun k => by have := hp.2; have := k.1; omega)]
    · rw [if_neg hp, if_neg hp]
theorem pend_snoc : ∀ (lo : Int) (l : List Qc) (q : Qc), pend lo (l ++ [q]) = q.1 + (q.2.size : Int)
  | lo, [], q => rfl
  | lo, p :: t, q => pend_snoc _ t q
theorem dat_app (d e : ByteArray) (i : Nat) : dat (d ++ e) i = if i < d.size then dat d i else dat e (i - d.size) := by
  unfold dat
  rw [show (d ++ e).data = d.data ++ e.data from ByteArray.data_append, Array.getElem?_append, show d.data.size = d.size from rfl]
  split <;> rfl

theorem dat_get (d : ByteArray) {k : Nat} (h : k < d.size) : dat d k = ((d[k]'h).toNat : Int) := by
  unfold dat
  rw [Array.getElem?_eq_getElem (show k < d.data.size from h)]
  rfl
/-- The bytes of f from lo up to j, as pieces. -/
def Bld (lo : Nat) (f : Nat → Int) (j : Nat) (l : List Qc) : Prop :=
  pok (lo : Int) l ∧ ∀ n : Nat, pat l n = if lo ≤ n ∧ n < j ∧ 0 ≤ f n then f n else -1
theorem Bld.nil (lo : Nat) (f : Nat → Int) : Bld lo f lo [] := ⟨trivial, fun n => by rw [if_neg (by omega)]; rfl⟩
theorem Bld.skip {lo j : Nat} {f : Nat → Int} {l : List Qc} (h : Bld lo f j l) (hf : f j < 0) : Bld lo f (j + 1) l := ⟨h.1, fun n => by
  rw [h.2 n]
  by_cases hn : n = j
  · subst hn; rw [if_neg (by omega), if_neg (by omega)]
  · by_cases hc : lo ≤ n ∧ n < j ∧ 0 ≤ f n
    · rw [if_pos hc, if_pos (by omega)]
    · rw [if_neg hc, if_neg (by omega)]⟩
theorem Bld.ends {lo j : Nat} {f : Nat → Int} {l : List Qc} (h : Bld lo f j l) (hj : lo ≤ j) : pend (lo : Int) l ≤ (j : Int) := (pend_le h.1 (by omega) (by omega)).2 fun i hi => by
  rw [h.2 i] at hi
  split at hi <;> omega
theorem Bld.ends1 {lo j : Nat} {f : Nat → Int} {l : List Qc} (h : Bld lo f j l) (hj : lo < j) (hf : f (j - 1) < 0) : pend (lo : Int) l + 1 ≤ (j : Int) := by
  have := (pend_le (rd := (lo : Int)) h.1 (x := (j : Int) - 1) (by omega) (by omega)).2 fun i hi => by
    rw [h.2 i] at hi
    split at hi
    · rename_i hc
      have : i ≠ j - 1 := fun e => by subst e; omega
      omega
    · omega
  omega
/-- A byte behind the last piece. -/
theorem Bld.ext {lo j : Nat} {f : Nat → Int} {l : List Qc} {x : Int} {d s : ByteArray} (h : Bld lo f j (l ++ [(x, d)])) (hx : x + (d.size : Int) = (j : Int)) (hs : s.size = 1) (hb : dat s 0 = f j) (hlo : lo ≤ j) : Bld lo f (j + 1) (l ++ [(x, d ++ s)]) := by
  obtain ⟨h1, h2, h3⟩ := pok_snoc.1 h.1
  have hsz : (d ++ s).size = d.size + 1 := by rw [ByteArray.size_append, hs]
  have hp : pok (lo : Int) (l ++ [(x, d ++ s)]) := pok_snoc.2 ⟨h1, h2, by simp only [hsz]; omega⟩
  simp only at h2 h3
  refine ⟨hp, fun n => ?_⟩
  have hl := pok_last h.1
  simp only at hl
  have e := h.2 n
  rw [pat_snoc n h.1] at e
  rw [pat_snoc n hp]
  by_cases hn : n = j
  · subst hn
    rw [if_pos ⟨by simp only; omega, by simp only [hsz]; omega⟩, if_pos ⟨hlo, by omega, by rw [← hb]; exact (dat_bd _ _).1⟩]
    simp only
    rw [dat_app, if_neg (by omega), show ((n : Int) - x).toNat - d.size = 0 by omega, hb]
  · by_cases hq : pin (x, d) n
    · have hq' : pin (x, d ++ s) n := ⟨hq.1, by have := hq.2; simp only [hsz] at *; omega⟩
      rw [if_pos hq] at e
      rw [if_pos hq']
      simp only at e ⊢
      rw [dat_app, if_pos (by have := hq.2; simp only at this; have := hq.1; simp only at this; omega), e]
      by_cases hc : lo ≤ n ∧ n < j ∧ 0 ≤ f n
      · rw [if_pos hc, if_pos (by omega)]
      · rw [if_neg hc, if_neg (by omega)]
    · have hq' : ¬ pin (x, d ++ s) n := fun k => hq ⟨k.1, by have := k.2; simp only [hsz] at *; omega⟩
      rw [if_neg hq] at e
      rw [if_neg hq', e]
      by_cases hc : lo ≤ n ∧ n < j ∧ 0 ≤ f n
      · rw [if_pos hc, if_pos (by omega)]
      · rw [if_neg hc, if_neg (by omega)]
/-- A byte behind a gap. -/
theorem Bld.new {lo j : Nat} {f : Nat → Int} {l : List Qc} {s : ByteArray} (h : Bld lo f j l) (hlo : lo ≤ j) (hg : j = lo ∨ f (j - 1) < 0) (hs : s.size = 1) (hb : dat s 0 = f j) : Bld lo f (j + 1) (l ++ [((j : Int), s)]) := by
  have hp : pok (lo : Int) (l ++ [((j : Int), s)]) := pok_snoc.2 ⟨h.1, by
    split
    · simp only; omega
    · rename_i hn
      simp only
      rcases hg with hg | hg
      · subst hg
        cases l with
        | nil => exact absurd rfl hn
        | cons p t =>
          have h0 := pat_head h.1 (by omega)
          rw [h.2, if_neg (by omega)] at h0
          omega
      · rcases Nat.lt_or_ge lo j with k | k
        · exact h.ends1 k hg
        · have : j = lo := by omega
          subst this
          cases l with
          | nil => exact absurd rfl hn
          | cons p t =>
            have h0 := pat_head h.1 (by omega)
            rw [h.2, if_neg (by omega)] at h0
            omega, by simp only; omega⟩
  refine ⟨hp, fun n => ?_⟩
  rw [pat_snoc n hp]
  by_cases hn : n = j
  · subst hn
    rw [if_pos ⟨by simp only; omega, by simp only; omega⟩, if_pos ⟨hlo, by omega, by rw [← hb]; exact (dat_bd _ _).1⟩]
    simp only
    rw [show ((n : Int) - (n : Int)).toNat = 0 by omega, hb]
  · rw [if_neg (fun k => by have h1 := k.1; have h2 := k.2; simp only at h1 h2; omega), h.2 n]
    by_cases hc : lo ≤ n ∧ n < j ∧ 0 ≤ f n
    · rw [if_pos hc, if_pos (by omega)]
    · rw [if_neg hc, if_neg (by omega)]
/-- The whole row. -/
theorem Bld.all {lo j : Nat} {f : Nat → Int} {l : List Qc} (h : Bld lo f j l) (hf : ∀ n, lo ≤ n → -1 ≤ f n ∧ (j ≤ n → f n = -1)) : IsP (lo : Int) f l := ⟨h.1, fun n => by
  rw [h.2 n]
  by_cases h1 : lo ≤ n
  · have := hf n h1
    rw [if_pos (by omega : (lo : Int) ≤ (n : Int))]
    split <;> omega
  · rw [if_neg (by omega), if_neg (by omega)]⟩
/-- What the model's list of bytes holds after the pieces l, over f. -/
def lay (l : List Qc) (f : Nat → Int) : Nat → Int := l.foldl (fun f p n => if pin p n then dat p.2 ((n : Int) - p.1).toNat else f n) f
theorem lay_snoc (l : List Qc) (q : Qc) (f : Nat → Int) (n : Nat) : lay (l ++ [q]) f n = if pin q n then dat q.2 ((n : Int) - q.1).toNat else lay l f n := by simp [lay]
theorem lay_pat : ∀ {lo : Int} {l : List Qc} (f : Nat → Int) (n : Nat), pok lo l → lay l f n = if 0 ≤ pat l n then pat l n else f n
  | lo, [], f, n, _ => by simp [lay, pat]
  | lo, p :: t, f, n, h => by
    have ih := lay_pat (fun n => if pin p n then dat p.2 ((n : Int) - p.1).toNat else f n) n h.2.2
    show lay t _ n = _
    rw [ih]
    by_cases hp : pin p n
    · have e := pat_lt (i := n) h.2.2 (by have := hp.2; omega)
      have e2 : pat (p :: t) n = dat p.2 ((n : Int) - p.1).toNat := by unfold pat; rw [if_pos hp]
      rw [e, e2, if_neg (by omega), if_pos hp, if_pos (dat_bd _ _).1]
    · have e2 : pat (p :: t) n = pat t n := by
        show (if pin p n then _ else pat t n) = pat t n
        rw [if_neg hp]
      rw [e2, if_neg hp]
end Go.Proofs.Ythdhjjbgegcncaa
