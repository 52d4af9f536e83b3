/- Heaps of tickets in plain lists: what container/heap keeps. -/
import Derived.Test.YtlhjhdlpejpooabRpMath
namespace Go.Proofs.Ytlhjhdlpejpooab
open Go.RowKit
set_option linter.unusedVariables false
set_option linter.unusedSimpArgs false

/-- Two entries exchanged. -/
def swp (l : List Tic) (i j : Nat) : List Tic := (l.set i (l.getD j (0, 0))).set j (l.getD i (0, 0))
def kl (l : List Tic) (i : Nat) : Int := (l.getD i (0, 0)).2
theorem swp_len (l : List Tic) (i j : Nat) : (swp l i j).length = l.length := by unfold swp; simp
theorem getD_set (l : List Tic) (i k : Nat) (v : Tic) (hi : i < l.length) : (l.set i v).getD k (0, 0) = if k = i then v else l.getD k (0, 0) := by
  rw [List.getD_eq_getElem?_getD, List.getD_eq_getElem?_getD, List.getElem?_set]
  by_cases h : k = i
  · subst h; simp [hi]
  · rw [if_neg (fun e => h e.symm), if_neg h]
theorem swp_at (l : List Tic) (i j k : Nat) (hi : i < l.length) (hj : j < l.length) : (swp l i j).getD k (0, 0) = if k = j then l.getD i (0, 0) else if k = i then l.getD j (0, 0) else l.getD k (0, 0) := by
  unfold swp
  rw [getD_set _ _ _ _ (by simpa using hj)]
  split
  · rfl
  · rw [getD_set _ _ _ _ hi]
theorem swp_perm (l : List Tic) (i j : Nat) (hi : i < l.length) (hj : j < l.length) : (swp l i j).Perm l := by
  unfold swp
  rw [List.getD_eq_getElem?_getD, List.getD_eq_getElem?_getD, List.getElem?_eq_getElem hi, List.getElem?_eq_getElem hj]
  exact List.set_set_perm hi hj
theorem kl_swp (l : List Tic) (i j k : Nat) (hi : i < l.length) (hj : j < l.length) : kl (swp l i j) k = if k = j then kl l i else if k = i then kl l j else kl l k := by
  unfold kl
  rw [swp_at l i j k hi hj]
  split
  · rfl
  · split <;> rfl

/-- The first n entries are a heap. -/
def hok (l : List Tic) (n : Nat) : Prop := ∀ c, 0 < c → c < n → kl l ((c - 1) / 2) ≤ kl l c
/-- .. but for the entry j, which may be smaller than its parent. -/
def UpI (l : List Tic) (j : Nat) : Prop := (∀ c, 0 < c → c < l.length → c ≠ j → kl l ((c - 1) / 2) ≤ kl l c) ∧ (∀ c, 0 < c → c < l.length → (c - 1) / 2 = j → 0 < j → kl l ((j - 1) / 2) ≤ kl l c)
theorem UpI.swap {l : List Tic} {j : Nat} (h : UpI l j) (hj : j < l.length) (h0 : 0 < j) (hlt : kl l j < kl l ((j - 1) / 2)) : UpI (swp l ((j - 1) / 2) j) ((j - 1) / 2) := by
  obtain ⟨h1, h2⟩ := h
  have hp : (j - 1) / 2 < j := by omega
  have hp' : (j - 1) / 2 < l.length := by omega
  refine ⟨fun c c0 c1 c2 => ?_, fun c c0 c1 c2 c3 => ?_⟩
  · rw [swp_len] at c1
    rw [kl_swp l _ _ _ hp' hj, kl_swp l _ _ _ hp' hj]
    by_cases e1 : c = j
    · subst e1
      rw [if_neg (by omega), if_pos rfl, if_pos rfl]
      omega
    · rw [if_neg e1, if_neg c2]
      by_cases e2 : (c - 1) / 2 = j
      · rw [if_pos e2]; exact h2 c c0 c1 e2 h0
      · rw [if_neg e2]
        have := h1 c c0 c1 e1
        by_cases e3 : (c - 1) / 2 = (j - 1) / 2
        · rw [if_pos e3]; rw [e3] at this; omega
        · rw [if_neg e3]; exact this
  · rw [swp_len] at c1
    rw [kl_swp l _ _ _ hp' hj, kl_swp l _ _ _ hp' hj]
    have hpp := h1 ((j - 1) / 2) c3 hp' (by omega)
    rw [if_neg (by omega), if_neg (by omega)]
    by_cases e1 : c = j
    · rw [if_pos e1]; exact hpp
    · rw [if_neg e1, if_neg (by omega)]
      have := h1 c c0 c1 e1
      rw [c2] at this
      omega
theorem UpI.done {l : List Tic} {j : Nat} (h : UpI l j) (hd : j = 0 ∨ ¬ kl l j < kl l ((j - 1) / 2)) : hok l l.length := by
  intro c c0 c1
  by_cases e : c = j
  · subst e
    rcases hd with hd | hd
    · omega
    · omega
  · exact h.1 c c0 c1 e
/-- .. but for the entry i, which may be larger than its children. -/
def DnI (l : List Tic) (n i : Nat) : Prop := (∀ c, 0 < c → c < n → (c - 1) / 2 ≠ i → kl l ((c - 1) / 2) ≤ kl l c) ∧ (∀ c, 0 < c → c < n → (c - 1) / 2 = i → 0 < i → kl l ((i - 1) / 2) ≤ kl l c)
theorem DnI.swap {l : List Tic} {n i j : Nat} (h : DnI l n i) (hn : n ≤ l.length) (hj : j < n) (h0 : 0 < j) (hp : (j - 1) / 2 = i) (hlt : kl l j < kl l i) (hm : ∀ c, 0 < c → c < n → (c - 1) / 2 = i → kl l j ≤ kl l c) : DnI (swp l i j) n j := by
  obtain ⟨h1, h2⟩ := h
  have hi' : i < l.length := by omega
  have hj' : j < l.length := by omega
  refine ⟨fun c c0 c1 c2 => ?_, fun c c0 c1 c2 c3 => ?_⟩
  · rw [kl_swp l _ _ _ hi' hj', kl_swp l _ _ _ hi' hj', if_neg c2]
    by_cases e1 : c = j
    · subst e1
      rw [if_pos hp, if_pos rfl]; omega
    · rw [if_neg e1]
      by_cases e2 : (c - 1) / 2 = i
      · rw [if_pos e2, if_neg (by omega)]; exact hm c c0 c1 e2
      · rw [if_neg e2]
        by_cases e3 : c = i
        · subst e3
          rw [if_pos rfl]; exact h2 j h0 hj hp c0
        · rw [if_neg e3]; exact h1 c c0 c1 e2
  · rw [kl_swp l _ _ _ hi' hj', kl_swp l _ _ _ hi' hj', if_neg (by omega), if_pos hp, if_neg (by omega), if_neg (by omega)]
    have := h1 c c0 c1 (by omega)
    rw [c2] at this
    exact this
theorem DnI.done {l : List Tic} {n i : Nat} (h : DnI l n i) (hd : ∀ c, 0 < c → c < n → (c - 1) / 2 = i → kl l i ≤ kl l c) : hok l n := by
  intro c c0 c1
  by_cases e : (c - 1) / 2 = i
  · rw [e]; exact hd c c0 c1 e
  · exact h.1 c c0 c1 e
theorem hok_top {l : List Tic} {n : Nat} (h : hok l n) : ∀ c, c < n → kl l 0 ≤ kl l c := by
  intro c
  induction c using Nat.strongRecOn with
  | _ c ih =>
    intro hc
    by_cases h0 : c = 0
    · subst h0; exact Int.le_refl _
    · have := ih ((c - 1) / 2) (by omega) (by omega)
      have := h c (by omega) hc
      omega
theorem up_start {l : List Tic} {t : Tic} (h : hok l l.length) : UpI (l ++ [t]) l.length := by
  have e : ∀ c, c < l.length → kl (l ++ [t]) c = kl l c := by
    intro c hc
    unfold kl
    rw [List.getD_eq_getElem?_getD, List.getD_eq_getElem?_getD, List.getElem?_append_left hc]
  refine ⟨fun c c0 c1 c2 => ?_, fun c c0 c1 c2 c3 => ?_⟩
  · have hc : c < l.length := by simp at c1; omega
    rw [e _ hc, e _ (by omega)]; exact h c c0 hc
  · simp at c1; omega
/-- The top laid last: the others are a heap but for their first. -/
theorem dn_start {l : List Tic} {m : Nat} (h : hok l l.length) (hl : l.length = m + 1) : DnI (swp l 0 m) m 0 := by
  refine ⟨fun c c0 c1 c2 => ?_, fun c c0 c1 c2 c3 => by omega⟩
  rw [kl_swp l _ _ _ (by omega) (by omega), kl_swp l _ _ _ (by omega) (by omega), if_neg (by omega), if_neg c2, if_neg (by omega), if_neg (by omega)]
  exact h c c0 (by omega)
theorem hok_take {l : List Tic} {n : Nat} (h : hok l n) (hn : n ≤ l.length) : hok (l.take n) (l.take n).length := by
  intro c c0 c1
  rw [List.length_take, Nat.min_eq_left hn] at c1
  have e : ∀ c, c < n → kl (l.take n) c = kl l c := by
    intro c hc
    unfold kl
    rw [List.getD_eq_getElem?_getD, List.getD_eq_getElem?_getD, List.getElem?_take_of_lt hc]
  rw [e _ c1, e _ (by omega)]; exact h c c0 c1
theorem take_top {l l' : List Tic} {m : Nat} (hp : l'.Perm l) (hl : l.length = m + 1) (ht : l'.getD m (0, 0) = l.getD 0 (0, 0)) : l.Perm (l.getD 0 (0, 0) :: l'.take m) := by
  have hl' : l'.length = m + 1 := by rw [hp.length_eq, hl]
  have e : l' = l'.take m ++ [l'.getD m (0, 0)] := by
    rw [List.getD_eq_getElem?_getD, List.getElem?_eq_getElem (show m < l'.length by omega)]
    conv => lhs; rw [← List.take_length (l := l'), hl', List.take_add_one, List.getElem?_eq_getElem (show m < l'.length by omega)]
    rfl
  refine hp.symm.trans ?_
  rw [← ht]
  conv => lhs; rw [e]
  exact List.perm_append_singleton _ _

/-- What a tick keeps, out of a heap that has lost what is too old. -/
theorem forget_step {l m L : List Tic} {t : Tic} {p : Int} (h : (l.filter fun x => decide (p ≤ x.2)).Perm L) (hp : l.Perm (t :: m)) (ht : t.2 < p) : (m.filter fun x => decide (p ≤ x.2)).Perm L := by
  refine List.Perm.trans ?_ h
  have := (hp.filter fun x => decide (p ≤ x.2)).symm
  rwa [List.filter_cons_of_neg (by simp; omega)] at this
theorem forget_done {l L : List Tic} {p : Int} (h : (l.filter fun x => decide (p ≤ x.2)).Perm L) (hk : hok l l.length) (hd : l = [] ∨ p ≤ kl l 0) : l.Perm L := by
  rw [List.filter_eq_self.2 ?_] at h
  · exact h
  · intro x hx
    rcases hd with rfl | hd
    · cases hx
    · obtain ⟨i, hi, rfl⟩ := List.getElem_of_mem hx
      have := hok_top hk i hi
      unfold kl at this hd
      rw [List.getD_eq_getElem?_getD (i := i), List.getElem?_eq_getElem hi] at this
      simp only [Option.getD_some] at this
      simp; omega
theorem tick_sorted {n : Int} {l s : List Tic} (hl : l.Pairwise TL) (hp : s.Perm (tick n l)) (hs : s.Pairwise TL) : s = tick n l :=
  asc_unique hs (by unfold tick; exact hl.filter _) fun x => hp.mem_iff

end Go.Proofs.Ytlhjhdlpejpooab
