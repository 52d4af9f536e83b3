/- Chapter 31 in plain words: pieces as bytes by offset; a valid stream; what arrives, what is read. -/
import Derived.Test.YthdhjjbgegcncaaBase
import Derived.Below
namespace Go.Proofs.Ythdhjjbgegcncaa
open Go.RowKit
set_option linter.unusedVariables false
set_option linter.unusedSimpArgs false

abbrev Qc := Int × ByteArray
/-- The byte i of a string. -/
def dat (d : ByteArray) (i : Nat) : Int := ((d.data[i]?.getD 0).toNat : Int)
theorem dat_bd (d : ByteArray) (i : Nat) : 0 ≤ dat d i ∧ dat d i ≤ 255 := by
  unfold dat
  have := (d.data[i]?.getD 0).toNat_lt
  omega
theorem dat_ext {d e : ByteArray} (h : d.size = e.size) (hh : ∀ i, i < d.size → dat d i = dat e i) : d = e := by
  obtain ⟨a⟩ := d
  obtain ⟨b⟩ := e
  have hs : a.size = b.size := h
  congr 1
  refine Array.ext hs fun i h1 h2 => ?_
  have := hh i h1
  unfold dat at this
  simp only [Array.getElem?_eq_getElem h1, Array.getElem?_eq_getElem h2, Option.getD_some] at this
  exact UInt8.toNat_inj.1 (by omega)
/-- The piece has the offset i. -/
def pin (p : Qc) (i : Nat) : Prop := p.1 ≤ (i : Int) ∧ (i : Int) < p.1 + (p.2.size : Int)
instance (p : Qc) (i : Nat) : Decidable (pin p i) := by unfold pin; infer_instance
/-- The byte at an offset, or -1. -/
def pat : List Qc → Nat → Int
  | [], _ => -1
  | p :: t, i => if pin p i then dat p.2 ((i : Int) - p.1).toNat else pat t i
/-- In order from lo on, none empty, none touching the next. -/
def pok : Int → List Qc → Prop
  | _, [] => True
  | lo, p :: t => lo ≤ p.1 ∧ 0 < p.2.size ∧ pok (p.1 + (p.2.size : Int) + 1) t
def decPok : (lo : Int) → (l : List Qc) → Decidable (pok lo l)
  | _, [] => isTrue trivial
  | lo, p :: t => by
    have := decPok (p.1 + (p.2.size : Int) + 1) t
    unfold pok
    infer_instance
instance (lo : Int) (l : List Qc) : Decidable (pok lo l) := decPok lo l
/-- The end of the last piece; rd if there is none. -/
def pend : Int → List Qc → Int
  | rd, [] => rd
  | _, p :: t => pend (p.1 + (p.2.size : Int)) t
theorem pat_cases : ∀ (l : List Qc) (i : Nat), pat l i = -1 ∨ (0 ≤ pat l i ∧ pat l i ≤ 255)
  | [], i => .inl rfl
  | p :: t, i => by
    unfold pat
    split
    · exact .inr (dat_bd _ _)
    · exact pat_cases t i
theorem pok_mono {lo lo' : Int} {l : List Qc} (h : pok lo l) (hl : lo' ≤ lo) : pok lo' l := by
  cases l with
  | nil => trivial
  | cons p t => exact ⟨by have := h.1; omega, h.2⟩
theorem pat_lt : ∀ {lo : Int} {l : List Qc} {i : Nat}, pok lo l → (i : Int) < lo → pat l i = -1
  | lo, [], i, _, _ => rfl
  | lo, p :: t, i, h, hi => by
    have hn : ¬ pin p i := fun k => by have := h.1; have := k.1; omega
    unfold pat
    rw [if_neg hn]
    exact pat_lt h.2.2 (by have := h.1; omega)
theorem pend_ge : ∀ {rd lo : Int} {l : List Qc}, pok lo l → rd ≤ lo → rd ≤ pend rd l
  | rd, lo, [], _, _ => Int.le_refl _
  | rd, lo, p :: t, h, hl => by
    have := pend_ge (rd := p.1 + (p.2.size : Int)) h.2.2 (by omega)
    have := h.1
    unfold pend
    omega
/-- All bytes lie ahead of the end. -/
theorem pat_end : ∀ {rd lo : Int} {l : List Qc} {i : Nat}, pok lo l → 0 ≤ pat l i → (i : Int) < pend rd l
  | rd, lo, [], i, _, h => by simp [pat] at h
  | rd, lo, p :: t, i, h, hi => by
    unfold pat at hi
    unfold pend
    split at hi
    · rename_i k
      have := pend_ge (rd := p.1 + (p.2.size : Int)) h.2.2 (by omega)
      have := k.2
      omega
    · exact pat_end h.2.2 hi
/-- The last byte is there. -/
theorem pat_last : ∀ {rd lo : Int} {l : List Qc}, pok lo l → 0 ≤ lo → l ≠ [] → ∃ i : Nat, (i : Int) + 1 = pend rd l ∧ 0 ≤ pat l i
  | rd, lo, [], _, _, h => absurd rfl h
  | rd, lo, p :: t, h, h0, _ => by
    obtain ⟨h1, h2, h3⟩ := h
    unfold pend
    cases ht : t with
    | nil =>
      refine ⟨(p.1 + (p.2.size : Int) - 1).toNat, by unfold pend; omega, ?_⟩
      unfold pat
      rw [if_pos ⟨by omega, by omega⟩]
      exact (dat_bd _ _).1
    | cons q u =>
      rw [ht] at h3
      obtain ⟨i, hi, hp⟩ := pat_last (rd := p.1 + (p.2.size : Int)) h3 (by omega) (by simp)
      refine ⟨i, hi, ?_⟩
      unfold pat
      split
      · exact (dat_bd _ _).1
      · exact hp
theorem pend_le {rd lo x : Int} {l : List Qc} (h : pok lo l) (h0 : 0 ≤ lo) (hx : rd ≤ x) : pend rd l ≤ x ↔ ∀ i : Nat, 0 ≤ pat l i → (i : Int) < x := by
  constructor
  · intro hl i hi
    have := pat_end (rd := rd) h hi
    omega
  · intro hh
    by_cases hn : l = []
    · subst hn; exact hx
    · obtain ⟨i, hi, hp⟩ := pat_last (rd := rd) h h0 hn
      have := hh i hp
      omega
theorem pat_head {lo : Int} {p : Qc} {t : List Qc} (h : pok lo (p :: t)) (h0 : 0 ≤ lo) : 0 ≤ pat (p :: t) p.1.toNat := by
  unfold pat
  rw [if_pos ⟨by have := h.1; omega, by have := h.1; have := h.2.1; omega⟩]
  exact (dat_bd _ _).1
/-- One form: pieces with the same bytes are the same. -/
theorem pok_ext : ∀ {lo : Int} {l m : List Qc}, pok lo l → pok lo m → 0 ≤ lo → (∀ i : Nat, pat l i = pat m i) → l = m
  | lo, [], [], _, _, _, _ => rfl
  | lo, [], q :: u, _, hm, h0, hh => by
    have h1 := pat_head hm h0
    rw [← hh] at h1
    simp [pat] at h1
  | lo, p :: t, [], hl, _, h0, hh => by
    have h1 := pat_head hl h0
    rw [hh] at h1
    simp [pat] at h1
  | lo, p :: t, q :: u, hl, hm, h0, hh => by
    have hp0 := hl.1
    have hq0 := hm.1
    have e1 : p.1 = q.1 := by
      rcases Int.lt_trichotomy p.1 q.1 with h | h | h
      · have h1 := pat_head hl h0
        rw [hh, pat_lt (lo := q.1) (l := q :: u) (show pok q.1 (q :: u) from ⟨Int.le_refl _, hm.2⟩) (by omega)] at h1
        omega
      · exact h
      · have h1 := pat_head hm h0
        rw [← hh, pat_lt (lo := p.1) (l := p :: t) (show pok p.1 (p :: t) from ⟨Int.le_refl _, hl.2⟩) (by omega)] at h1
        omega
    have key : ∀ {a b : Qc} {v w : List Qc}, lo ≤ a.1 → a.1 = b.1 → pok (a.1 + (a.2.size : Int) + 1) v → (∀ i : Nat, pat (a :: v) i = pat (b :: w) i) → ¬ a.2.size < b.2.size := by
      intro a b v w ha hab hv hpp hlt
      have h1 := hpp (a.1 + (a.2.size : Int)).toNat
      have n1 : ¬ pin a (a.1 + (a.2.size : Int)).toNat := fun k => by have := k.2; omega
      have n2 : pin b (a.1 + (a.2.size : Int)).toNat := ⟨by omega, by omega⟩
      unfold pat at h1
      rw [if_neg n1, if_pos n2, pat_lt hv (by omega)] at h1
      have := (dat_bd b.2 (((a.1 + (a.2.size : Int)).toNat : Int) - b.1).toNat).1
      omega
    have e2 : p.2.size = q.2.size := by
      have k1 := key (a := p) (b := q) (v := t) (w := u) (by omega) e1 hl.2.2 hh
      have k2 := key (a := q) (b := p) (v := u) (w := t) (by omega) e1.symm hm.2.2 (fun i => (hh i).symm)
      omega
    have e3 : p.2 = q.2 := dat_ext e2 (fun i hi => by
      have h1 := hh (p.1 + (i : Int)).toNat
      unfold pat at h1
      rw [if_pos ⟨by omega, by omega⟩, if_pos ⟨by omega, by omega⟩] at h1
      rwa [show (((p.1 + (i : Int)).toNat : Int) - p.1).toNat = i by omega, show (((p.1 + (i : Int)).toNat : Int) - q.1).toNat = i by omega] at h1)
    have e : p = q := Prod.ext e1 e3
    subst e
    have et : t = u := pok_ext (lo := p.1 + (p.2.size : Int) + 1) hl.2.2 hm.2.2 (by omega) (fun i => by
      have h1 := hh i
      by_cases k : pin p i
      · rw [pat_lt hl.2.2 (by have := k.2; omega), pat_lt hm.2.2 (by have := k.2; omega)]
      · unfold pat at h1
        rwa [if_neg k, if_neg k] at h1)
    rw [et]

/-- A stream: read bytes, pieces, final size, limit. -/
def rvok (rd : Int) (l : List Qc) (fi li : Int) : Prop :=
  (0 ≤ li ∧ li ≤ 30) ∧ (0 ≤ rd ∧ rd ≤ li) ∧ pok rd l ∧ pend rd l ≤ li ∧ (fi = -1 ∨ (pend rd l ≤ fi ∧ fi ≤ li))
instance (rd : Int) (l : List Qc) (fi li : Int) : Decidable (rvok rd l fi li) := by unfold rvok; infer_instance
/-- The bytes of b from lo on, as pieces. -/
def IsP (lo : Int) (b : Nat → Int) (l : List Qc) : Prop := pok lo l ∧ ∀ i : Nat, pat l i = if lo ≤ (i : Int) then b i else -1
theorem IsP.uniq {lo : Int} {b : Nat → Int} {l m : List Qc} (h0 : 0 ≤ lo) (hl : IsP lo b l) (hm : IsP lo b m) : l = m :=
  pok_ext hl.1 hm.1 h0 (fun i => (hl.2 i).trans (hm.2 i).symm)
theorem IsP.self {lo : Int} {l : List Qc} (h : pok lo l) : IsP lo (pat l) l := ⟨h, fun i => by
  split
  · rfl
  · rename_i k; exact pat_lt h (by omega)⟩
theorem IsP.congr {lo : Int} {b c : Nat → Int} {l : List Qc} (h : IsP lo b l) (hh : ∀ i : Nat, lo ≤ (i : Int) → b i = c i) : IsP lo c l := ⟨h.1, fun i => by
  rw [h.2 i]
  split
  · rename_i k; exact hh i k
  · rfl⟩

/-- What arrives: data d at the offset o. -/
def pnew (b : Nat → Int) (o : Nat) (d : ByteArray) : Nat → Int := fun i => if o ≤ i ∧ i < o + d.size then dat d (i - o) else b i
/-- A byte that waits differs. -/
def pconf (b : Nat → Int) (o : Nat) (d : ByteArray) : Prop := ∃ k, k < d.size ∧ 0 ≤ b (o + k) ∧ b (o + k) ≠ dat d k
instance (b : Nat → Int) (o : Nat) (d : ByteArray) : Decidable (pconf b o d) :=
  decidable_of_iff (∃ k : Fin d.size, 0 ≤ b (o + k.1) ∧ b (o + k.1) ≠ dat d k.1) ⟨fun ⟨k, h⟩ => ⟨k.1, k.2, h⟩, fun ⟨k, hk, h⟩ => ⟨⟨k, hk⟩, h⟩⟩
/-- The end contradicts the final size. -/
def pfin (rd : Int) (l : List Qc) (fi en : Int) (fin : Bool) : Prop := (fin = true ∧ ((0 ≤ fi ∧ fi ≠ en) ∨ en < pend rd l)) ∨ (fin = false ∧ 0 ≤ fi ∧ fi < en)
instance (rd : Int) (l : List Qc) (fi en : Int) (fin : Bool) : Decidable (pfin rd l fi en fin) := by unfold pfin; infer_instance
def pcode (rd : Int) (l : List Qc) (fi li : Int) (o : Nat) (d : ByteArray) (fin : Bool) : Int :=
  if li < (o : Int) + (d.size : Int) then 1 else if pfin rd l fi ((o : Int) + (d.size : Int)) fin then 2 else if pconf (pat l) o d then 3 else 0
/-- The answer of an accepted part: the pieces and the final size. -/
structure Put (rd : Int) (l : List Qc) (fi li : Int) (o : Nat) (d : ByteArray) (fin : Bool) (l' : List Qc) (fi' : Int) : Prop where
  pc : IsP rd (pnew (pat l) o d) l'
  fi : fi' = if fin then (o : Int) + (d.size : Int) else fi
end Go.Proofs.Ythdhjjbgegcncaa
