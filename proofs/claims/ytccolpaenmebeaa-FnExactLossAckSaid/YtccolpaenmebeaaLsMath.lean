/- Chapter 22 in plain lists: a valid state, sending, acknowledging, the timer, the bytes. -/
import Derived.Test.YtccolpaenmebeaaBase
import Derived.Below
import Derived.IntWalk
namespace Go.Proofs.Ytccolpaenmebeaa
open Go.RowKit
set_option linter.unusedVariables false
set_option linter.unusedSimpArgs false

/-- Number, time, size. -/
abbrev Pk := Int × Int × Int
/-- The next number, the flight, the largest acknowledged number. -/
abbrev Ls := Int × List Pk × Int
def pkD : Pk := (0, 0, 0)
def pkok (n g : Int) (p : Pk) : Prop := (0 ≤ p.1 ∧ p.1 ≤ n - 1) ∧ (0 ≤ p.2.1 ∧ p.2.1 ≤ 999) ∧ (1 ≤ p.2.2 ∧ p.2.2 ≤ 99) ∧ p.1 ≠ g
instance (n g : Int) (p : Pk) : Decidable (pkok n g p) := by unfold pkok; infer_instance
def PL (p q : Pk) : Prop := p.1 < q.1 ∧ p.2.1 ≤ q.2.1
instance (p q : Pk) : Decidable (PL p q) := by unfold PL; infer_instance
theorem PL.trans {p q r : Pk} (h : PL p q) (k : PL q r) : PL p r := ⟨Int.lt_trans h.1 k.1, Int.le_trans h.2 k.2⟩
def lok (s : Ls) : Prop := (0 ≤ s.1 ∧ s.1 ≤ 1000) ∧ (-1 ≤ s.2.2 ∧ s.2.2 ≤ s.1 - 1) ∧ s.2.1.length ≤ 12 ∧ (∀ p ∈ s.2.1, pkok s.1 s.2.2 p) ∧ s.2.1.Pairwise PL
instance (s : Ls) : Decidable (lok s) := by unfold lok; infer_instance

theorem pl_of_adj : ∀ (l : List Pk), (∀ k, k + 1 < l.length → PL (l.getD k pkD) (l.getD (k + 1) pkD)) → l.Pairwise PL
  | [], _ => List.Pairwise.nil
  | [_], _ => List.pairwise_singleton _ _
  | a :: b :: t, h => by
    have ih := pl_of_adj (b :: t) (fun k hk => by have := h (k + 1) (by simp at hk ⊢; omega); simpa using this)
    have hab : PL a b := by have := h 0 (by simp); simpa using this
    refine List.pairwise_cons.2 ⟨fun x hx => ?_, ih⟩
    rcases List.mem_cons.1 hx with rfl | hx
    · exact hab
    · exact hab.trans ((List.pairwise_cons.1 ih).1 x hx)
theorem adj_of_pl {l : List Pk} (h : l.Pairwise PL) (k : Nat) (hk : k + 1 < l.length) : PL (l.getD k pkD) (l.getD (k + 1) pkD) := by
  rw [List.getD_eq_getElem?_getD, List.getD_eq_getElem?_getD, List.getElem?_eq_getElem (by omega), List.getElem?_eq_getElem hk]
  exact List.pairwise_iff_getElem.1 h k (k + 1) (by omega) hk (by omega)
theorem takeP (l : List Pk) (j : Nat) (h : j < l.length) : l.take (j + 1) = l.take j ++ [l.getD j pkD] ∧ l.getD j pkD ∈ l := by
  rw [List.getD_eq_getElem?_getD, List.getElem?_eq_getElem h]
  exact ⟨by rw [List.take_add_one, List.getElem?_eq_getElem h]; rfl, List.getElem_mem h⟩

/-- Sending. -/
def lfull (s : Ls) (t : Int) : Prop := 999 < s.1 ∨ 12 ≤ s.2.1.length ∨ (0 < s.2.1.length ∧ t < (s.2.1.getD (s.2.1.length - 1) pkD).2.1)
instance (s : Ls) (t : Int) : Decidable (lfull s t) := by unfold lfull; infer_instance
def lsend (s : Ls) (t z : Int) : Ls × Int × Bool := if lfull s t then (s, -1, false) else ((s.1 + 1, s.2.1 ++ [(s.1, t, z)], s.2.2), s.1, true)
def lsendv (s : Ls) (t z : Int) : Ls × Int × Bool := if lok s ∧ (0 ≤ t ∧ t ≤ 999) ∧ (1 ≤ z ∧ z ≤ 99) then lsend s t z else ((0, [], 0), 0, false)

/-- Acknowledging: what the set holds, its last number. -/
def hasR (a : List (Int × Int)) (n : Int) : Bool := a.any fun r => decide (r.1 ≤ n ∧ n ≤ r.2)
def lastR : List (Int × Int) → Option Int
  | [] => none
  | a => some (a.getD (a.length - 1) (0, 0)).2
def topR (g : Int) (a : List (Int × Int)) : Int := match lastR a with | none => g | some h => max g h
def isLost (top now delay : Int) (p : Pk) : Bool := decide (p.1 < top ∧ (p.1 ≤ top - 3 ∨ p.2.1 ≤ now - delay))
def gotL (a : List (Int × Int)) (l : List Pk) : List Int := (l.filter fun p => hasR a p.1).map (·.1)
def lostL (a : List (Int × Int)) (top now delay : Int) (l : List Pk) : List Int := (l.filter fun p => !hasR a p.1 && isLost top now delay p).map (·.1)
def keptL (a : List (Int × Int)) (top now delay : Int) (l : List Pk) : List Pk := l.filter fun p => !hasR a p.1 && !isLost top now delay p
def lack (s : Ls) (a : List (Int × Int)) (now delay : Int) : Ls × List Int × List Int :=
  ((s.1, keptL a (topR s.2.2 a) now delay s.2.1, topR s.2.2 a), gotL a s.2.1, lostL a (topR s.2.2 a) now delay s.2.1)
def lbytes (l : List Pk) : Int := (l.map fun p => p.2.2).sum
def ltimer (s : Ls) (delay : Int) : Int := if lok s ∧ (1 ≤ delay ∧ delay ≤ 1998) ∧ 0 < s.2.1.length ∧ (s.2.1.getD 0 pkD).1 < s.2.2 then (s.2.1.getD 0 pkD).2.1 + delay else -1

theorem keptL_sub {a : List (Int × Int)} {top now delay : Int} {l : List Pk} : ∀ p ∈ keptL a top now delay l, p ∈ l ∧ hasR a p.1 = false ∧ isLost top now delay p = false := fun p hp => by
  obtain ⟨h1, h2⟩ := List.mem_filter.1 hp
  simp at h2
  exact ⟨h1, h2⟩
/-- What is kept is kept again, and nothing else happens. -/
theorem keptL_again {a : List (Int × Int)} {top now delay : Int} {l : List Pk} : keptL a top now delay (keptL a top now delay l) = keptL a top now delay l ∧ gotL a (keptL a top now delay l) = [] ∧ lostL a top now delay (keptL a top now delay l) = [] := by
  refine ⟨?_, ?_, ?_⟩
  · unfold keptL; rw [List.filter_filter]; simp
  · unfold gotL
    rw [List.map_eq_nil_iff, List.filter_eq_nil_iff]
    intro p hp
    rw [(keptL_sub p hp).2.1]; simp
  · unfold lostL
    rw [List.map_eq_nil_iff, List.filter_eq_nil_iff]
    intro p hp
    obtain ⟨_, h1, h2⟩ := keptL_sub p hp
    rw [h1, h2]; simp
theorem lack_len (s : Ls) (a : List (Int × Int)) (now delay : Int) : (lack s a now delay).2.1.length + (lack s a now delay).2.2.length + (lack s a now delay).1.2.1.length = s.2.1.length := by
  unfold lack gotL lostL keptL
  simp only [List.length_map]
  generalize topR s.2.2 a = top
  induction s.2.1 with
  | nil => simp
  | cons p t ih =>
    cases h1 : hasR a p.1 <;> cases h2 : isLost top now delay p <;> simp [h1, h2] <;> omega
theorem topR_ge (g : Int) (a : List (Int × Int)) : g ≤ topR g a := by
  unfold topR; split
  · exact Int.le_refl _
  · omega
/-- An acknowledgement keeps a state valid, where the set's last number was sent. -/
theorem lack_ok {s : Ls} {a : List (Int × Int)} {now delay : Int} (h : lok s) (ha : ∀ x, lastR a = some x → x < s.1) (hin : ∀ x, lastR a = some x → hasR a x = true) : lok (lack s a now delay).1 := by
  obtain ⟨h1, h2, h3, h4, h5⟩ := h
  have htop : topR s.2.2 a ≤ s.1 - 1 := by
    unfold topR
    cases hr : lastR a with
    | none => exact h2.2
    | some x => have := ha x hr; simp only; omega
  have hge := topR_ge s.2.2 a
  refine ⟨h1, ⟨by show -1 ≤ topR s.2.2 a; omega, htop⟩, Nat.le_trans (List.length_filter_le _ _) h3, fun p hp => ?_, h5.filter _⟩
  obtain ⟨k1, k2, k3⟩ := keptL_sub p hp
  obtain ⟨p1, p2, p3, p4⟩ := h4 p k1
  refine ⟨p1, p2, p3, ?_⟩
  show p.1 ≠ topR s.2.2 a
  unfold topR
  cases hr : lastR a with
  | none => exact p4
  | some x =>
    simp only
    intro e
    rcases Int.le_total s.2.2 x with hle | hle
    · rw [Int.max_eq_right hle] at e
      rw [e, hin x hr] at k2
      cases k2
    · rw [Int.max_eq_left hle] at e
      exact p4 e
theorem lsend_ok {s : Ls} {t z : Int} (h : lok s) (ht : 0 ≤ t ∧ t ≤ 999) (hz : 1 ≤ z ∧ z ≤ 99) : lok (lsend s t z).1 := by
  unfold lsend
  by_cases hf : lfull s t
  · rw [if_pos hf]; exact h
  · rw [if_neg hf]
    unfold lfull at hf
    obtain ⟨h1, h2, h3, h4, h5⟩ := h
    refine ⟨by show 0 ≤ s.1 + 1 ∧ s.1 + 1 ≤ 1000; omega, by show -1 ≤ s.2.2 ∧ s.2.2 ≤ s.1 + 1 - 1; omega, by show (s.2.1 ++ [(s.1, t, z)]).length ≤ 12; simp; omega, fun p hp => ?_, ?_⟩
    · rcases List.mem_append.1 hp with hp | hp
      · obtain ⟨p1, p2, p3, p4⟩ := h4 p hp
        exact ⟨by show 0 ≤ p.1 ∧ p.1 ≤ s.1 + 1 - 1; omega, p2, p3, p4⟩
      · rw [List.mem_singleton] at hp
        subst hp
        exact ⟨by show 0 ≤ s.1 ∧ s.1 ≤ s.1 + 1 - 1; omega, ht, hz, by show s.1 ≠ s.2.2; omega⟩
    · refine List.pairwise_append.2 ⟨h5, List.pairwise_singleton _ _, fun p hp q hq => ?_⟩
      rw [List.mem_singleton] at hq
      subst hq
      obtain ⟨p1, _⟩ := h4 p hp
      refine ⟨by show p.1 < s.1; omega, ?_⟩
      show p.2.1 ≤ t
      have hlen : 0 < s.2.1.length := List.length_pos_of_mem hp
      have hlast : (s.2.1.getD (s.2.1.length - 1) pkD).2.1 ≤ t := by omega
      refine Int.le_trans ?_ hlast
      obtain ⟨i, hi, rfl⟩ := List.mem_iff_getElem.1 hp
      rw [List.getD_eq_getElem?_getD, List.getElem?_eq_getElem (by omega)]
      show s.2.1[i].2.1 ≤ (s.2.1[s.2.1.length - 1]).2.1
      rcases (by omega : i = s.2.1.length - 1 ∨ i < s.2.1.length - 1) with e | e
      · subst e; exact Int.le_refl _
      · exact (List.pairwise_iff_getElem.1 h5 i (s.2.1.length - 1) hi (by omega) e).2

/-- What the loop of LossValid has seen. -/
def SeenP (p g : Int) (l : List Pk) (j : Nat) : Prop := (∀ t ∈ l.take j, (0 ≤ t.1 ∧ t.1 ≤ p) ∧ (0 ≤ t.2.1 ∧ t.2.1 ≤ 999) ∧ (1 ≤ t.2.2 ∧ t.2.2 ≤ 99) ∧ t.1 ≠ g) ∧ ∀ k, k + 1 < j → PL (l.getD k pkD) (l.getD (k + 1) pkD)
theorem SeenP.zero (p g : Int) (l : List Pk) : SeenP p g l 0 := ⟨by simp, fun k hk => by omega⟩
theorem SeenP.succ {p g : Int} {l : List Pk} {j : Nat} (h : SeenP p g l j) (hj : j < l.length) (h1 : (0 ≤ (l.getD j pkD).1 ∧ (l.getD j pkD).1 ≤ p) ∧ (0 ≤ (l.getD j pkD).2.1 ∧ (l.getD j pkD).2.1 ≤ 999) ∧ (1 ≤ (l.getD j pkD).2.2 ∧ (l.getD j pkD).2.2 ≤ 99) ∧ (l.getD j pkD).1 ≠ g)
    (h3 : 0 < j → PL (l.getD (j - 1) pkD) (l.getD j pkD)) : SeenP p g l (j + 1) := by
  refine ⟨fun t ht => ?_, fun k hk => ?_⟩
  · rw [(takeP l j hj).1] at ht
    rcases List.mem_append.1 ht with ht | ht
    · exact h.1 t ht
    · rw [List.mem_singleton] at ht; subst ht; exact h1
  · by_cases hk' : k + 1 = j
    · have := h3 (by omega)
      rw [show k = j - 1 from by omega, show j - 1 + 1 = j from by omega]; exact this
    · exact h.2 k (by omega)
theorem lok_of_seen {n g : Int} {l : List Pk} (h : SeenP (n - 1) g l l.length) (h1 : 0 ≤ n ∧ n ≤ 1000) (h2 : -1 ≤ g ∧ g ≤ n - 1) (h3 : l.length ≤ 12) : lok (n, l, g) := by
  refine ⟨h1, h2, h3, fun t ht => ?_, pl_of_adj l h.2⟩
  exact h.1 t (by rw [List.take_length]; exact ht)
theorem lok_bad {n p g : Int} {l : List Pk} {j : Nat} (hj : j < l.length) (hp : 0 ≤ n ∧ n ≤ 1000 → p = n - 1)
    (h : ¬ ((0 ≤ (l.getD j pkD).1 ∧ (l.getD j pkD).1 ≤ p) ∧ (0 ≤ (l.getD j pkD).2.1 ∧ (l.getD j pkD).2.1 ≤ 999) ∧ (1 ≤ (l.getD j pkD).2.2 ∧ (l.getD j pkD).2.2 ≤ 99) ∧ (l.getD j pkD).1 ≠ g) ∨ (0 < j ∧ ¬ PL (l.getD (j - 1) pkD) (l.getD j pkD))) : ¬ lok (n, l, g) := by
  rintro ⟨h1, h2, h3, h4, h5⟩
  have hm := (takeP l j hj).2
  rcases h with h | ⟨h0, h⟩
  · have := h4 _ hm
    unfold pkok at this
    rw [hp h1] at h
    exact h this
  · have := adj_of_pl h5 (j - 1) (by show j - 1 + 1 < l.length; omega)
    rw [show j - 1 + 1 = j from by omega] at this
    exact h this



theorem lbytes_take {l : List Pk} {j : Nat} (h : j < l.length) : lbytes (l.take (j + 1)) = lbytes (l.take j) + (l.getD j pkD).2.2 := by
  rw [(takeP l j h).1]; unfold lbytes; rw [List.map_append, List.sum_append]; simp
theorem lbytes_bd : ∀ (l : List Pk), (∀ p ∈ l, 1 ≤ p.2.2 ∧ p.2.2 ≤ 99) → 0 ≤ lbytes l ∧ lbytes l ≤ 99 * l.length
  | [], _ => by simp [lbytes]
  | p :: t, h => by
    obtain ⟨k1, k2⟩ := lbytes_bd t (fun q hq => h q (List.mem_cons_of_mem _ hq))
    obtain ⟨k3, k4⟩ := h p (List.mem_cons_self ..)
    unfold lbytes at k1 k2 ⊢
    simp only [List.map_cons, List.sum_cons, List.length_cons]
    omega
def lbytesv (s : Ls) : Int := if lok s then lbytes s.2.1 else -1
theorem lbytesv_no {s : Ls} (h : ¬ lok s) : lbytesv s = -1 := by unfold lbytesv; rw [if_neg h]
theorem lbytesv_yes {s : Ls} (h : lok s) : lbytesv s = lbytes s.2.1 := by unfold lbytesv; rw [if_pos h]
theorem lbytes_tk {n g : Int} {l : List Pk} (h : lok (n, l, g)) (j : Nat) : 0 ≤ lbytes (l.take j) ∧ lbytes (l.take j) ≤ 1188 := by
  obtain ⟨_, _, h3, h4, _⟩ := h
  have h3' : l.length ≤ 12 := h3
  obtain ⟨k1, k2⟩ := lbytes_bd (l.take j) (fun p hp => (h4 p (List.mem_of_mem_take hp)).2.2.1)
  refine ⟨k1, ?_⟩
  have : (l.take j).length ≤ 12 := Nat.le_trans (by rw [List.length_take]; exact Nat.min_le_right _ _) h3'
  omega

end Go.Proofs.Ytccolpaenmebeaa
