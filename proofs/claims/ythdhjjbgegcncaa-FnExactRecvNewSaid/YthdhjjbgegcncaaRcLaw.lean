/- The laws of chapter 31 at plain streams. -/
import Derived.Test.YthdhjjbgegcncaaRcMath
namespace Go.Proofs.Ythdhjjbgegcncaa
open Go.RowKit
set_option linter.unusedVariables false
set_option linter.unusedSimpArgs false

/-- The parts of 'accepted'. -/
theorem pcode_zero {rd : Int} {l : List Qc} {fi li : Int} {o : Nat} {d : ByteArray} {fin : Bool} : pcode rd l fi li o d fin = 0 ↔ (o : Int) + (d.size : Int) ≤ li ∧ ¬ pfin rd l fi ((o : Int) + (d.size : Int)) fin ∧ ¬ pconf (pat l) o d := by
  unfold pcode
  by_cases h1 : li < (o : Int) + (d.size : Int)
  · rw [if_pos h1]; constructor
    · intro h; omega
    · intro h; omega
  · rw [if_neg h1]
    by_cases h2 : pfin rd l fi ((o : Int) + (d.size : Int)) fin
    · rw [if_pos h2]; constructor
      · intro h; omega
      · intro h; exact absurd h2 h.2.1
    · rw [if_neg h2]
      by_cases h3 : pconf (pat l) o d
      · rw [if_pos h3]; constructor
        · intro h; omega
        · intro h; exact absurd h3 h.2.2
      · rw [if_neg h3]
        exact ⟨fun _ => ⟨by omega, h2, h3⟩, fun _ => rfl⟩
theorem pnew_in {b : Nat → Int} {o : Nat} {d : ByteArray} {i : Nat} (h : o ≤ i ∧ i < o + d.size) : pnew b o d i = dat d (i - o) := by unfold pnew; rw [if_pos h]
theorem pnew_out {b : Nat → Int} {o : Nat} {d : ByteArray} {i : Nat} (h : ¬ (o ≤ i ∧ i < o + d.size)) : pnew b o d i = b i := by unfold pnew; rw [if_neg h]
/-- Where a byte is after an accepted part. -/
theorem Put.has {rd : Int} {l l' : List Qc} {fi li fi' : Int} {o : Nat} {d : ByteArray} {fin : Bool} (h : Put rd l fi li o d fin l' fi') (hl : pok rd l) (i : Nat) : 0 ≤ pat l' i ↔ (0 ≤ pat l i ∨ (rd ≤ (i : Int) ∧ o ≤ i ∧ i < o + d.size)) := by
  rw [h.pc.2 i]
  by_cases hr : rd ≤ (i : Int)
  · rw [if_pos hr]
    by_cases hi : o ≤ i ∧ i < o + d.size
    · rw [pnew_in hi]; exact ⟨fun _ => .inr ⟨hr, hi⟩, fun _ => (dat_bd _ _).1⟩
    · rw [pnew_out hi]; exact ⟨.inl, fun k => k.resolve_right (fun k => hi k.2)⟩
  · rw [if_neg hr]
    constructor
    · intro k; omega
    · rintro (k | k)
      · rw [pat_lt hl (by omega)] at k; omega
      · exact absurd k.1 hr
/-- The end after an accepted part. -/
theorem Put.pend_le {rd : Int} {l l' : List Qc} {fi li fi' : Int} {o : Nat} {d : ByteArray} {fin : Bool} (h : Put rd l fi li o d fin l' fi') (hl : pok rd l) (h0 : 0 ≤ rd) {x : Int} (hx : rd ≤ x) : pend rd l' ≤ x ↔ pend rd l ≤ x ∧ (d.size = 0 ∨ (o : Int) + (d.size : Int) ≤ rd ∨ (o : Int) + (d.size : Int) ≤ x) := by
  rw [Ythdhjjbgegcncaa.pend_le h.pc.1 h0 hx, Ythdhjjbgegcncaa.pend_le hl h0 hx]
  constructor
  · intro hh
    refine ⟨fun i hi => hh i ((h.has hl i).2 (.inl hi)), ?_⟩
    by_cases hd : d.size = 0
    · exact .inl hd
    · right
      by_cases hr : (o : Int) + (d.size : Int) ≤ rd
      · exact .inl hr
      · right
        have := hh (o + d.size - 1) ((h.has hl _).2 (.inr ⟨by omega, by omega, by omega⟩))
        omega
  · rintro ⟨h1, h2⟩ i hi
    rcases (h.has hl i).1 hi with k | k
    · exact h1 i k
    · rcases h2 with h2 | h2 | h2 <;> omega
/-- The stream stays valid. -/
theorem put_ok {rd : Int} {l l' : List Qc} {fi li fi' : Int} {o : Nat} {d : ByteArray} {fin : Bool} (hv : rvok rd l fi li) (hc : pcode rd l fi li o d fin = 0) (h : Put rd l fi li o d fin l' fi') : rvok rd l' fi' li := by
  obtain ⟨v1, v2, v3, v4, v5⟩ := hv
  obtain ⟨c1, c2, c3⟩ := pcode_zero.1 hc
  have hp := pend_ge (rd := rd) v3 (Int.le_refl _)
  refine ⟨v1, v2, h.pc.1, (h.pend_le v3 v2.1 v2.2).2 ⟨v4, by omega⟩, ?_⟩
  rw [h.fi]
  unfold pfin at c2
  cases fin with
  | true =>
    right
    simp only [if_true]
    have c4 : pend rd l ≤ (o : Int) + (d.size : Int) := by
      rcases Int.lt_or_le ((o : Int) + (d.size : Int)) (pend rd l) with k | k
      · exact absurd (.inl ⟨rfl, .inr k⟩) c2
      · exact k
    exact ⟨(h.pend_le v3 v2.1 (by omega)).2 ⟨c4, by omega⟩, c1⟩
  | false =>
    simp only [Bool.false_eq_true, if_false]
    rcases v5 with v5 | ⟨v5, v6⟩
    · exact .inl v5
    · right
      have c4 : (o : Int) + (d.size : Int) ≤ fi := by
        rcases Int.lt_or_le fi ((o : Int) + (d.size : Int)) with k | k
        · exact absurd (.inr ⟨rfl, by omega, k⟩) c2
        · exact k
      exact ⟨(h.pend_le v3 v2.1 (by omega)).2 ⟨v5, by omega⟩, v6⟩
/-- Twice. -/
theorem put_twice {rd : Int} {l l' : List Qc} {fi li fi' : Int} {o : Nat} {d : ByteArray} {fin : Bool} (hv : rvok rd l fi li) (hc : pcode rd l fi li o d fin = 0) (h : Put rd l fi li o d fin l' fi') :
    pcode rd l' fi' li o d fin = 0 ∧ Put rd l' fi' li o d fin l' fi' := by
  have hv' := put_ok hv hc h
  obtain ⟨v1, v2, v3, v4, v5⟩ := hv
  obtain ⟨c1, c2, c3⟩ := pcode_zero.1 hc
  have hp := pend_ge (rd := rd) v3 (Int.le_refl _)
  unfold pfin at c2
  refine ⟨pcode_zero.2 ⟨c1, ?_, ?_⟩, ⟨⟨h.pc.1, fun i => ?_⟩, by rw [h.fi]; cases fin <;> rfl⟩⟩
  · unfold pfin
    rintro (⟨hf, k⟩ | ⟨hf, k⟩)
    · subst hf
      have c4 : pend rd l ≤ (o : Int) + (d.size : Int) := by
        rcases Int.lt_or_le ((o : Int) + (d.size : Int)) (pend rd l) with k | k
        · exact absurd (.inl ⟨rfl, .inr k⟩) c2
        · exact k
      have c5 := (h.pend_le v3 v2.1 (x := (o : Int) + (d.size : Int)) (by omega)).2 ⟨c4, by omega⟩
      have hfi : fi' = (o : Int) + (d.size : Int) := h.fi
      rcases k with k | k <;> omega
    · subst hf
      have hfi : fi' = fi := h.fi
      rw [hfi] at k
      exact c2 (.inr ⟨rfl, k⟩)
  · rintro ⟨k, hk, h0, h1⟩
    rw [h.pc.2 (o + k)] at h0 h1
    split at h0
    · rename_i hr
      rw [if_pos hr, pnew_in ⟨by omega, by omega⟩, show o + k - o = k by omega] at h1
      exact h1 rfl
    · omega
  · rw [h.pc.2 i]
    split
    · rename_i hr
      by_cases hi : o ≤ i ∧ i < o + d.size
      · rw [pnew_in hi, pnew_in hi]
      · rw [pnew_out hi, pnew_out hi, h.pc.2 i, if_pos hr, pnew_out hi]
    · rfl
/-- Two parts in the other order. -/
theorem put_order {rd : Int} {l l1 l2 m1 m2 : List Qc} {fi li f1 f2 g1 g2 : Int} {o p : Nat} {d e : ByteArray} {fin gin : Bool} (hv : rvok rd l fi li)
    (hc : pcode rd l fi li o d fin = 0) (h1 : Put rd l fi li o d fin l1 f1) (hc2 : pcode rd l1 f1 li p e gin = 0) (h2 : Put rd l1 f1 li p e gin l2 f2)
    (hne : ¬ (d.size = 0 ∧ fin = false)) (hne2 : ¬ (e.size = 0 ∧ gin = false))
    (k1 : Put rd l fi li p e gin m1 g1) (k2 : Put rd m1 g1 li o d fin m2 g2) :
    pcode rd l fi li p e gin = 0 ∧ pcode rd m1 g1 li o d fin = 0 ∧ m2 = l2 ∧ g2 = f2 := by
  have hv1 := put_ok hv hc h1
  obtain ⟨v1, v2, v3, v4, v5⟩ := hv
  obtain ⟨w1, w2, w3, w4, w5⟩ := hv1
  obtain ⟨c1, c2, c3⟩ := pcode_zero.1 hc
  obtain ⟨b1, b2, b3⟩ := pcode_zero.1 hc2
  have hp := pend_ge (rd := rd) v3 (Int.le_refl _)
  have hp1 := pend_ge (rd := rd) w3 (Int.le_refl _)
  -- the ends
  have A : fin = true → (fi = -1 ∨ fi = (o : Int) + (d.size : Int)) ∧ pend rd l ≤ (o : Int) + (d.size : Int) ∧ f1 = (o : Int) + (d.size : Int) := by
    intro hf
    subst hf
    refine ⟨?_, ?_, h1.fi⟩
    · rcases v5 with k | k
      · exact .inl k
      · right
        exact Decidable.byContradiction fun hh => c2 (.inl ⟨rfl, .inl ⟨by omega, hh⟩⟩)
    · exact Int.not_lt.1 fun hh => c2 (.inl ⟨rfl, .inr hh⟩)
  have A' : fin = false → f1 = fi ∧ (fi = -1 ∨ (o : Int) + (d.size : Int) ≤ fi) := by
    intro hf
    subst hf
    refine ⟨h1.fi, ?_⟩
    rcases v5 with k | k
    · exact .inl k
    · exact .inr (Int.not_lt.1 fun hh => c2 (.inr ⟨rfl, by omega, hh⟩))
  have B : gin = true → (f1 = -1 ∨ f1 = (p : Int) + (e.size : Int)) ∧ pend rd l1 ≤ (p : Int) + (e.size : Int) := by
    intro hf
    subst hf
    refine ⟨?_, Int.not_lt.1 fun hh => b2 (.inl ⟨rfl, .inr hh⟩)⟩
    rcases w5 with k | k
    · exact .inl k
    · right
      exact Decidable.byContradiction fun hh => b2 (.inl ⟨rfl, .inl ⟨by omega, hh⟩⟩)
  have B' : gin = false → f1 = -1 ∨ (p : Int) + (e.size : Int) ≤ f1 := by
    intro hf
    subst hf
    rcases w5 with k | k
    · exact .inl k
    · exact .inr (Int.not_lt.1 fun hh => b2 (.inr ⟨rfl, by omega, hh⟩))
  have E1 : ∀ {x : Int}, rd ≤ x → pend rd l1 ≤ x → pend rd l ≤ x ∧ (d.size = 0 ∨ (o : Int) + (d.size : Int) ≤ x) := by
    intro x hx hh
    have := (h1.pend_le v3 v2.1 hx).1 hh
    exact ⟨this.1, by rcases this.2 with k | k | k <;> omega⟩
  have P1 : pcode rd l fi li p e gin = 0 := by
    refine pcode_zero.2 ⟨b1, ?_, ?_⟩
    · unfold pfin
      rintro (⟨hg, k⟩ | ⟨hg, k⟩)
      · obtain ⟨q1, q2⟩ := B hg
        have q3 := E1 (by omega) q2
        cases fin with
        | true => have := A rfl; rcases k with k | k <;> omega
        | false => have := A' rfl; rcases k with k | k <;> omega
      · have q1 := B' hg
        cases fin with
        | true => have := A rfl; omega
        | false => have := A' rfl; omega
    · rintro ⟨k, hk, q0, q1⟩
      refine b3 ⟨k, hk, ?_⟩
      have hr : rd ≤ ((p + k : Nat) : Int) := by
        rcases Int.lt_or_le ((p + k : Nat) : Int) rd with hh | hh
        · rw [pat_lt v3 hh] at q0; omega
        · exact hh
      rw [h1.pc.2 (p + k), if_pos hr]
      by_cases hi : o ≤ p + k ∧ p + k < o + d.size
      · rw [pnew_in hi]
        refine ⟨(dat_bd _ _).1, fun hh => ?_⟩
        refine c3 ⟨p + k - o, by omega, ?_⟩
        rw [show o + (p + k - o) = p + k by omega]
        exact ⟨q0, by rw [hh]; exact q1⟩
      · rw [pnew_out hi]; exact ⟨q0, q1⟩
  have hvm := put_ok ⟨v1, v2, v3, v4, v5⟩ P1 k1
  obtain ⟨u1, u2, u3, u4, u5⟩ := hvm
  have M1 : ∀ {x : Int}, rd ≤ x → pend rd l ≤ x → (e.size = 0 ∨ (p : Int) + (e.size : Int) ≤ x) → pend rd m1 ≤ x := by
    intro x hx hh hq
    exact (k1.pend_le v3 v2.1 hx).2 ⟨hh, by rcases hq with k | k <;> omega⟩
  have G : g1 = if gin then (p : Int) + (e.size : Int) else fi := k1.fi
  have P2 : pcode rd m1 g1 li o d fin = 0 := by
    refine pcode_zero.2 ⟨c1, ?_, ?_⟩
    · unfold pfin
      rintro (⟨hf, k⟩ | ⟨hf, k⟩)
      · obtain ⟨a1, a2, a3⟩ := A hf
        have q2 : pend rd m1 ≤ (o : Int) + (d.size : Int) := M1 (by omega) a2 (by
          cases gin with
          | true => have := B rfl; omega
          | false => have := B' rfl; omega)
        cases gin with
        | true => have := B rfl; simp only [if_true] at G; rcases k with k | k <;> omega
        | false => have := B' rfl; simp only [Bool.false_eq_true, if_false] at G; rcases k with k | k <;> omega
      · have a1 := A' hf
        cases gin with
        | true =>
          obtain ⟨q1, q2⟩ := B rfl
          have q3 := E1 (by omega) q2
          simp only [if_true] at G
          have hd : d.size ≠ 0 := fun hh => hne ⟨hh, hf⟩
          omega
        | false => simp only [Bool.false_eq_true, if_false] at G; omega
    · rintro ⟨k, hk, q0, q1⟩
      rw [k1.pc.2 (o + k)] at q0 q1
      split at q0
      · rename_i hr
        rw [if_pos hr] at q1
        by_cases hi : p ≤ o + k ∧ o + k < p + e.size
        · rw [pnew_in hi] at q0 q1
          refine b3 ⟨o + k - p, by omega, ?_⟩
          rw [show p + (o + k - p) = o + k by omega, h1.pc.2 (o + k), if_pos hr, pnew_in ⟨by omega, by omega⟩, show o + k - o = k by omega]
          exact ⟨(dat_bd _ _).1, fun hh => q1 hh.symm⟩
        · rw [pnew_out hi] at q0 q1
          exact c3 ⟨k, hk, q0, q1⟩
      · omega
  refine ⟨P1, P2, ?_, ?_⟩
  · refine pok_ext k2.pc.1 h2.pc.1 v2.1 fun i => ?_
    rw [k2.pc.2 i, h2.pc.2 i]
    split
    · rename_i hr
      by_cases hi : o ≤ i ∧ i < o + d.size
      · rw [pnew_in hi]
        by_cases hj : p ≤ i ∧ i < p + e.size
        · rw [pnew_in hj]
          refine Decidable.byContradiction fun hh => b3 ⟨i - p, by omega, ?_⟩
          rw [show p + (i - p) = i by omega, h1.pc.2 i, if_pos hr, pnew_in hi]
          exact ⟨(dat_bd _ _).1, hh⟩
        · rw [pnew_out hj, h1.pc.2 i, if_pos hr, pnew_in hi]
      · rw [pnew_out hi, k1.pc.2 i, if_pos hr]
        by_cases hj : p ≤ i ∧ i < p + e.size
        · rw [pnew_in hj, pnew_in hj]
        · rw [pnew_out hj, pnew_out hj, h1.pc.2 i, if_pos hr, pnew_out hi]
    · rfl
  · rw [k2.fi, h2.fi]
    cases fin with
    | true =>
      cases gin with
      | true => have := A rfl; have := B rfl; simp only [if_true]; omega
      | false => have := A rfl; simp only [if_true, Bool.false_eq_true, if_false]; omega
    | false =>
      cases gin with
      | true => simp only [if_true, Bool.false_eq_true, if_false] at G ⊢; omega
      | false => have := A' rfl; simp only [Bool.false_eq_true, if_false] at G ⊢; omega
/-- Another value at a byte that waits. -/
theorem put_conflict {rd : Int} {l l' : List Qc} {fi li fi' : Int} {o k : Nat} {d e : ByteArray} {fin : Bool} (hv : rvok rd l fi li) (hc : pcode rd l fi li o d fin = 0) (h : Put rd l fi li o d fin l' fi') (hk : k < d.size) (he : e.size = 1) (hne : dat e 0 ≠ dat d k) (hr : rd ≤ ((o + k : Nat) : Int)) :
    pcode rd l' fi' li (o + k) e false = 3 := by
  have hv' := put_ok hv hc h
  obtain ⟨v1, v2, v3, v4, v5⟩ := hv
  obtain ⟨w1, w2, w3, w4, w5⟩ := hv'
  have hb : 0 ≤ pat l' (o + k) := (h.has v3 _).2 (.inr ⟨hr, by omega, by omega⟩)
  have hb2 := pat_end (rd := rd) w3 hb
  unfold pcode
  rw [if_neg (by rw [he]; omega), if_neg (by
    unfold pfin
    rintro (⟨k, _⟩ | ⟨_, k⟩)
    · cases k
    · rw [he] at k; omega), if_pos]
  refine ⟨0, by omega, ?_⟩
  rw [Nat.add_zero]
  refine ⟨hb, ?_⟩
  rw [h.pc.2 (o + k), if_pos hr, pnew_in ⟨by omega, by omega⟩, show o + k - o = k by omega]
  exact fun hh => hne hh.symm

/-- How many bytes can be read. -/
def rdy (rd : Int) : List Qc → Nat
  | [] => 0
  | p :: _ => if rd < p.1 then 0 else p.2.size
theorem rdy_has {rd : Int} {l : List Qc} (h : pok rd l) (h0 : 0 ≤ rd) {j : Nat} (hj : j < rdy rd l) : 0 ≤ pat l (rd.toNat + j) := by
  cases l with
  | nil => simp [rdy] at hj
  | cons p t =>
    simp only [rdy] at hj
    split at hj
    · omega
    · rename_i hp
      have := h.1
      unfold pat
      rw [if_pos ⟨by omega, by omega⟩]
      exact (dat_bd _ _).1
theorem rdy_end {rd : Int} {l : List Qc} (h : pok rd l) (h0 : 0 ≤ rd) : pat l (rd.toNat + rdy rd l) = -1 := by
  cases l with
  | nil => rfl
  | cons p t =>
    simp only [rdy]
    split
    · rename_i hp
      exact pat_lt (lo := p.1) (l := p :: t) (show pok p.1 (p :: t) from ⟨Int.le_refl _, h.2⟩) (by omega)
    · rename_i hp
      have := h.1
      unfold pat
      rw [if_neg (fun k => by have := k.2; omega)]
      exact pat_lt h.2.2 (by omega)
/-- The count is the first gap. -/
theorem rdy_uniq {rd : Int} {l : List Qc} (h : pok rd l) (h0 : 0 ≤ rd) {n : Nat} (h1 : ∀ j, j < n → 0 ≤ pat l (rd.toNat + j)) (h2 : pat l (rd.toNat + n) = -1) : rdy rd l = n := by
  rcases Nat.lt_trichotomy (rdy rd l) n with k | k | k
  · have := h1 _ k; rw [rdy_end h h0] at this; omega
  · exact k
  · have := rdy_has h h0 k; omega
/-- After reading k bytes. -/
structure Red (rd : Int) (l : List Qc) (k : Nat) (l' : List Qc) (s : ByteArray) : Prop where
  pc : IsP (rd + (k : Int)) (pat l) l'
  sz : s.size = k
  by_ : ∀ i, i < k → dat s i = pat l (rd.toNat + i)
theorem red_rdy {rd : Int} {l l' : List Qc} {k : Nat} {s : ByteArray} (h : pok rd l) (h0 : 0 ≤ rd) (hk : k ≤ rdy rd l) (hr : Red rd l k l' s) : rdy (rd + (k : Int)) l' = rdy rd l - k := by
  refine rdy_uniq hr.pc.1 (by omega) (fun j hj => ?_) ?_
  · rw [hr.pc.2, if_pos (by omega), show (rd + (k : Int)).toNat + j = rd.toNat + (k + j) by omega]
    exact rdy_has h h0 (by omega)
  · rw [hr.pc.2, if_pos (by omega), show (rd + (k : Int)).toNat + (rdy rd l - k) = rd.toNat + rdy rd l by omega]
    exact rdy_end h h0
theorem red_ok {rd : Int} {l l' : List Qc} {fi li : Int} {k : Nat} {s : ByteArray} (hv : rvok rd l fi li) (hk : k ≤ rdy rd l) (hr : Red rd l k l' s) : rvok (rd + (k : Int)) l' fi li := by
  obtain ⟨v1, v2, v3, v4, v5⟩ := hv
  have hle : rd + (k : Int) ≤ pend rd l := by
    by_cases h0 : k = 0
    · subst h0; have := pend_ge (rd := rd) v3 (Int.le_refl _); omega
    · have := pat_end (rd := rd) v3 (rdy_has v3 v2.1 (show k - 1 < rdy rd l by omega)); omega
  have hp : pend (rd + (k : Int)) l' ≤ pend rd l := (pend_le hr.pc.1 (by omega) hle).2 fun i hi => by
    rw [hr.pc.2 i] at hi
    split at hi
    · exact pat_end (rd := rd) v3 hi
    · omega
  exact ⟨v1, ⟨by omega, by omega⟩, hr.pc.1, by omega, by rcases v5 with k | k <;> omega⟩
/-- Two reads. -/
theorem red_split {rd : Int} {l l1 l2 m : List Qc} {k1 k2 : Nat} {s u v : ByteArray} (h0 : 0 ≤ rd) (h1 : Red rd l k1 l1 s) (h2 : Red (rd + (k1 : Int)) l1 k2 l2 u) (h3 : Red rd l (k1 + k2) m v) : l2 = m ∧ s ++ u = v := by
  constructor
  · refine pok_ext h2.pc.1 (by have := h3.pc.1; rwa [show rd + ((k1 + k2 : Nat) : Int) = rd + (k1 : Int) + (k2 : Int) by omega] at this) (by omega) fun i => ?_
    rw [h2.pc.2 i, h3.pc.2 i, h1.pc.2 i]
    by_cases hh : rd + (k1 : Int) + (k2 : Int) ≤ (i : Int)
    · rw [if_pos hh, if_pos (by omega), if_pos (by omega)]
    · rw [if_neg hh, if_neg (by omega)]
  · refine dat_ext (by rw [ByteArray.size_append, h1.sz, h2.sz, h3.sz]) fun i hi => ?_
    rw [ByteArray.size_append, h1.sz, h2.sz] at hi
    rw [h3.by_ i hi]
    have e : ((s ++ u).data)[i]? = if i < s.data.size then s.data[i]? else u.data[i - s.data.size]? := by
      rw [show (s ++ u).data = s.data ++ u.data from ByteArray.data_append]
      rw [Array.getElem?_append]
    have hs : s.data.size = k1 := h1.sz
    unfold dat
    rw [e, hs]
    by_cases hik : i < k1
    · rw [if_pos hik]; exact h1.by_ i hik
    · rw [if_neg hik]
      have := h2.by_ (i - k1) (by omega)
      rw [h1.pc.2, if_pos (by omega), show (rd + (k1 : Int)).toNat + (i - k1) = rd.toNat + i by omega] at this
      exact this
/-- What is ready never falls when a part arrives. -/
theorem put_ready {rd : Int} {l l' : List Qc} {fi li fi' : Int} {o : Nat} {d : ByteArray} {fin : Bool} (hl : pok rd l) (h0 : 0 ≤ rd) (h : Put rd l fi li o d fin l' fi') : rdy rd l ≤ rdy rd l' := by
  rcases Nat.lt_or_ge (rdy rd l') (rdy rd l) with k | k
  · have h1 := rdy_end h.pc.1 h0
    have h2 := (h.has hl _).2 (.inl (rdy_has hl h0 k))
    omega
  · exact k
end Go.Proofs.Ythdhjjbgegcncaa
