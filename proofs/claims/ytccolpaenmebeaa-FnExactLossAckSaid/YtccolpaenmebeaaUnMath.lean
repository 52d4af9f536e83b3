/- Chapter 2, plain lists: the union; what the program's merging of sorted ranges gives. -/
import Derived.Test.YtccolpaenmebeaaRgMath
namespace Go.Proofs.Ytccolpaenmebeaa
set_option linter.unusedVariables false
set_option linter.unusedSimpArgs false

theorem rhas_mem : ∀ {l : List (Int × Int)} {n : Int}, rhas l n = true ↔ ∃ r, r ∈ l ∧ r.1 ≤ n ∧ n ≤ r.2
  | [], n => by simp [rhas]
  | r :: t, n => by
    rw [rhas_cons, rhas_mem (l := t)]
    constructor
    · rintro (h | ⟨q, hq, h⟩)
      · exact ⟨r, List.mem_cons_self, h⟩
      · exact ⟨q, List.mem_cons_of_mem _ hq, h⟩
    · rintro ⟨q, hq, h⟩
      rcases List.mem_cons.1 hq with rfl | hq
      · exact .inl h
      · exact .inr ⟨q, hq, h⟩

/-! ### The model's union -/
def lunion (a b : List (Int × Int)) : List (Int × Int) := b.foldl (fun o r => ladd o r.1 r.2) a
theorem lunion_nil (a : List (Int × Int)) : lunion a [] = a := rfl
theorem lunion_cons (a t : List (Int × Int)) (r : Int × Int) : lunion a (r :: t) = lunion (ladd a r.1 r.2) t := rfl
theorem lunion_snoc (a b : List (Int × Int)) (r : Int × Int) : lunion a (b ++ [r]) = ladd (lunion a b) r.1 r.2 := by
  unfold lunion; rw [List.foldl_append]; rfl
theorem vfrom_els : ∀ {l : List (Int × Int)} {b : Int}, vfrom b l = true → ∀ r ∈ l, b ≤ r.1 ∧ r.1 ≤ r.2 ∧ r.2 ≤ 999
  | [], b, _, r, hr => by simp at hr
  | q :: t, b, h, r, hr => by
    rw [vfrom_cons] at h
    rcases List.mem_cons.1 hr with rfl | hr
    · exact h.1
    · have := vfrom_els h.2 r hr; omega
theorem ladd_props {l : List (Int × Int)} {lo hi : Int} (h : vfrom 0 l = true) (h0 : 0 ≤ lo) (h1 : lo ≤ hi) (h2 : hi ≤ 999) :
    vfrom 0 (ladd l lo hi) = true ∧ (ladd l lo hi).length ≤ l.length + 1 ∧ ∀ n, rhas (ladd l lo hi) n = true ↔ rhas l n = true ∨ (lo ≤ n ∧ n ≤ hi) := by
  rw [ladd_ins lo hi h]
  exact ⟨ins_valid l lo hi 0 h h0 h1 h2, ins_len l lo hi, fun n => ins_has l lo hi 0 n h h1⟩
theorem lunion_props : ∀ (b a : List (Int × Int)), vfrom 0 a = true → (∀ r ∈ b, 0 ≤ r.1 ∧ r.1 ≤ r.2 ∧ r.2 ≤ 999) →
    vfrom 0 (lunion a b) = true ∧ (lunion a b).length ≤ a.length + b.length ∧ ∀ n, rhas (lunion a b) n = true ↔ rhas a n = true ∨ rhas b n = true
  | [], a, ha, _ => ⟨ha, Nat.le_refl _, fun n => by rw [lunion_nil, rhas_nil]; simp⟩
  | r :: t, a, ha, hb => by
    obtain ⟨h0, h1, h2⟩ := hb r List.mem_cons_self
    obtain ⟨p1, p2, p3⟩ := ladd_props ha h0 h1 h2
    obtain ⟨q1, q2, q3⟩ := lunion_props t _ p1 fun q hq => hb q (List.mem_cons_of_mem _ hq)
    rw [lunion_cons]
    refine ⟨q1, by rw [List.length_cons]; omega, fun n => ?_⟩
    rw [q3, p3, rhas_cons, or_assoc]

/-! ### The program's merging -/
def mergeStep (o : List (Int × Int)) (r : Int × Int) : List (Int × Int) :=
  if o = [] then [r] else if r.1 ≤ (o.getD (o.length - 1) (0, 0)).2 + 1 then o.take (o.length - 1) ++ [((o.getD (o.length - 1) (0, 0)).1, max (o.getD (o.length - 1) (0, 0)).2 r.2)] else o ++ [r]
def lmerge (s : List (Int × Int)) : List (Int × Int) := s.foldl mergeStep []
theorem getD_last (o : List (Int × Int)) (q : Int × Int) : (o ++ [q]).getD ((o ++ [q]).length - 1) (0, 0) = q := by
  rw [List.getD_eq_getElem?_getD]; simp
theorem mergeStep_snoc (o : List (Int × Int)) (q r : Int × Int) : mergeStep (o ++ [q]) r = if r.1 ≤ q.2 + 1 then o ++ [(q.1, max q.2 r.2)] else o ++ [q] ++ [r] := by
  unfold mergeStep
  rw [if_neg (by simp), getD_last]
  simp
theorem mergeStep_len (o : List (Int × Int)) (r : Int × Int) : (mergeStep o r).length ≤ o.length + 1 := by
  unfold mergeStep
  split
  · simp
  · split
    · simp
      try omega
    · simp
theorem lmerge_len (s : List (Int × Int)) : (lmerge s).length ≤ s.length := by
  have : ∀ (t o : List (Int × Int)), (t.foldl mergeStep o).length ≤ o.length + t.length := by
    intro t
    induction t with
    | nil => intro o; simp
    | cons r t ih => intro o; rw [List.foldl_cons, List.length_cons]; have := ih (mergeStep o r); have := mergeStep_len o r; omega
  have := this s []
  simpa [lmerge] using this
theorem merge_fold : ∀ (s o : List (Int × Int)) (q : Int × Int), vfrom 0 (o ++ [q]) = true → (∀ r ∈ s, q.1 ≤ r.1 ∧ r.1 ≤ r.2 ∧ r.2 ≤ 999) → s.Pairwise (fun x y => x.1 ≤ y.1) →
    vfrom 0 (s.foldl mergeStep (o ++ [q])) = true ∧ ∀ n, rhas (s.foldl mergeStep (o ++ [q])) n = true ↔ rhas (o ++ [q]) n = true ∨ rhas s n = true
  | [], o, q, hv, _, _ => ⟨hv, fun n => by simp [rhas]⟩
  | r :: t, o, q, hv, hr, hs => by
    obtain ⟨r0, r1, r2⟩ := hr r List.mem_cons_self
    rw [List.pairwise_cons] at hs
    rw [List.foldl_cons, mergeStep_snoc]
    have hq := (vfrom_snoc o 0 q).1 hv
    by_cases h : r.1 ≤ q.2 + 1
    · rw [if_pos h]
      have hv2 : vfrom 0 (o ++ [(q.1, max q.2 r.2)]) = true := (vfrom_snoc o 0 _).2 ⟨hq.1, by simp only; omega⟩
      obtain ⟨p1, p2⟩ := merge_fold t o (q.1, max q.2 r.2) hv2 (fun x hx => by have := hr x (List.mem_cons_of_mem _ hx); simp only; omega) hs.2
      refine ⟨p1, fun n => ?_⟩
      rw [p2, rhas_app, rhas_app, rhas_cons, rhas_cons, rhas_cons, rhas_nil]
      simp only [or_false]
      constructor
      · rintro ((k | k) | k)
        · exact .inl (.inl k)
        · by_cases z : n ≤ q.2
          · exact .inl (.inr (by omega))
          · exact .inr (.inl (by omega))
        · exact .inr (.inr k)
      · rintro ((k | k) | k | k)
        · exact .inl (.inl k)
        · exact .inl (.inr (by omega))
        · exact .inl (.inr (by omega))
        · exact .inr k
    · rw [if_neg h]
      have hv2 : vfrom 0 (o ++ [q] ++ [r]) = true := (vfrom_snoc (o ++ [q]) 0 r).2 ⟨hv, by rw [nextFrom_snoc]; omega⟩
      obtain ⟨p1, p2⟩ := merge_fold t (o ++ [q]) r hv2 (fun x hx => ⟨hs.1 x hx, (hr x (List.mem_cons_of_mem _ hx)).2⟩) hs.2
      refine ⟨p1, fun n => ?_⟩
      rw [p2, rhas_app (l := o ++ [q]), rhas_cons (t := []), rhas_nil, rhas_cons, or_false, or_assoc]
theorem lmerge_props (s : List (Int × Int)) (h : ∀ r ∈ s, 0 ≤ r.1 ∧ r.1 ≤ r.2 ∧ r.2 ≤ 999) (hs : s.Pairwise (fun x y => x.1 ≤ y.1)) :
    vfrom 0 (lmerge s) = true ∧ ∀ n, rhas (lmerge s) n = true ↔ rhas s n = true := by
  cases s with
  | nil => exact ⟨rfl, fun n => Iff.rfl⟩
  | cons r t =>
    obtain ⟨r0, r1, r2⟩ := h r List.mem_cons_self
    rw [List.pairwise_cons] at hs
    have hv : vfrom 0 ([] ++ [r]) = true := by rw [List.nil_append, vfrom_cons]; exact ⟨⟨r0, r1, r2⟩, rfl⟩
    obtain ⟨p1, p2⟩ := merge_fold t [] r hv (fun x hx => ⟨hs.1 x hx, (h x (List.mem_cons_of_mem _ hx)).2⟩) hs.2
    refine ⟨p1, fun n => ?_⟩
    show rhas (t.foldl mergeStep ([] ++ [r])) n = true ↔ _
    rw [p2, List.nil_append, rhas_cons, rhas_nil, or_false, rhas_cons]
/-- What the program makes of two sets is the model's union. -/
theorem merge_union (a b s : List (Int × Int)) (ha : vfrom 0 a = true) (hb : vfrom 0 b = true) (hp : s.Perm (a ++ b)) (hs : s.Pairwise (fun x y => x.1 ≤ y.1)) : lmerge s = lunion a b := by
  have hm : ∀ r ∈ s, 0 ≤ r.1 ∧ r.1 ≤ r.2 ∧ r.2 ≤ 999 := fun r hr => by
    rcases List.mem_append.1 (hp.mem_iff.1 hr) with k | k
    · exact vfrom_els ha r k
    · exact vfrom_els hb r k
  obtain ⟨p1, p2⟩ := lmerge_props s hm hs
  obtain ⟨q1, q2, q3⟩ := lunion_props b a ha fun r hr => vfrom_els hb r hr
  refine vfrom_ext p1 q1 fun n => ?_
  rw [p2, q3, rhas_mem, rhas_mem, rhas_mem]
  constructor
  · rintro ⟨r, hr, h⟩
    rcases List.mem_append.1 (hp.mem_iff.1 hr) with k | k
    · exact .inl ⟨r, k, h⟩
    · exact .inr ⟨r, k, h⟩
  · rintro (⟨r, hr, h⟩ | ⟨r, hr, h⟩)
    · exact ⟨r, hp.mem_iff.2 (List.mem_append.2 (.inl hr)), h⟩
    · exact ⟨r, hp.mem_iff.2 (List.mem_append.2 (.inr hr)), h⟩

def runionOk (a b : List (Int × Int)) : Bool := rvalid a && rvalid b && decide ((lunion a b).length ≤ 16)
def runion (a b : List (Int × Int)) : List (Int × Int) := if runionOk a b then lunion a b else []
theorem runion_len (a b : List (Int × Int)) : (runion a b).length ≤ 16 := by
  unfold runion
  split
  · rename_i h
    unfold runionOk at h
    rw [Bool.and_eq_true, decide_eq_true_eq] at h
    exact h.2
  · simp
theorem rvalid_parts {l : List (Int × Int)} (h : rvalid l = true) : vfrom 0 l = true ∧ l.length ≤ 16 := by
  unfold rvalid at h
  rwa [Bool.and_eq_true, decide_eq_true_eq] at h
theorem runionOk_parts {a b : List (Int × Int)} (h : runionOk a b = true) : rvalid a = true ∧ rvalid b = true ∧ (lunion a b).length ≤ 16 ∧ runion a b = lunion a b := by
  have h' := h
  unfold runionOk at h
  rw [Bool.and_eq_true, Bool.and_eq_true, decide_eq_true_eq] at h
  exact ⟨h.1.1, h.1.2, h.2, by unfold runion; rw [h']; rfl⟩

/-! ### Gaps -/
def lgaps : List (Int × Int) → List (Int × Int)
  | [] => []
  | [_] => []
  | r :: s :: t => (r.2 + 1, s.1 - 1) :: lgaps (s :: t)
def rgaps (l : List (Int × Int)) : List (Int × Int) := if rvalid l then lgaps l else []
theorem lgaps_len : ∀ (l : List (Int × Int)), (lgaps l).length = l.length - 1
  | [] => rfl
  | [_] => rfl
  | r :: s :: t => by rw [lgaps, List.length_cons, lgaps_len (s :: t)]; simp
theorem lgaps_snoc : ∀ (l : List (Int × Int)) (q r : Int × Int), lgaps (l ++ [q] ++ [r]) = lgaps (l ++ [q]) ++ [(q.2 + 1, r.1 - 1)]
  | [], q, r => rfl
  | [x], q, r => rfl
  | x :: y :: t, q, r => by
    have := lgaps_snoc (y :: t) q r
    simp only [List.cons_append, lgaps] at this ⊢
    rw [this]
theorem lgaps_take (l : List (Int × Int)) (k : Nat) (h0 : 0 < k) (h : k < l.length) : lgaps (l.take (k + 1)) = lgaps (l.take k) ++ [((l.getD (k - 1) (0, 0)).2 + 1, (l.getD k (0, 0)).1 - 1)] := by
  have e : l.take k = l.take (k - 1) ++ [l.getD (k - 1) (0, 0)] := by
    have := take_get l (k - 1) (by omega)
    rwa [show k - 1 + 1 = k from by omega] at this
  rw [take_get l k h, e, lgaps_snoc]
theorem lgaps_valid : ∀ {l : List (Int × Int)} {b : Int}, vfrom b l = true → vfrom (b + 1) (lgaps l) = true
  | [], _, _ => rfl
  | [_], _, _ => rfl
  | r :: s :: t, b, h => by
    rw [vfrom_cons] at h
    have h2 := h.2
    rw [vfrom_cons] at h2
    rw [lgaps, vfrom_cons]
    have ih := lgaps_valid h.2
    refine ⟨by simp only; omega, vfrom_mono ?_ (Int.le_refl _)⟩
    simp only
    have ih2 := lgaps_valid (l := s :: t) (b := s.1) (by rw [vfrom_cons]; exact ⟨⟨Int.le_refl _, h2.1.2⟩, h2.2⟩)
    rwa [show s.1 - 1 + 2 = s.1 + 1 by omega]
/-- The gaps have the numbers that are missing between the ends. -/
theorem lgaps_has : ∀ {l : List (Int × Int)} {b : Int} (n : Int), vfrom b l = true → l ≠ [] → (rhas (lgaps l) n = true ↔ rhas l n = false ∧ (l.getD 0 (0, 0)).1 < n ∧ n < (l.getD (l.length - 1) (0, 0)).2)
  | [], _, n, _, h => absurd rfl h
  | [r], b, n, h, _ => by
    rw [vfrom_cons] at h
    simp only [lgaps, rhas, List.getD, List.length_singleton]
    simp
    intro k
    omega
  | r :: s :: t, b, n, h, _ => by
    have hv := h
    rw [vfrom_cons] at h
    have h2 := h.2
    rw [vfrom_cons] at h2
    have ih := lgaps_has (l := s :: t) n h.2 (by simp)
    have e1 : ((r :: s :: t).getD ((r :: s :: t).length - 1) (0, 0)) = ((s :: t).getD ((s :: t).length - 1) (0, 0)) := by
      simp [List.getD]
    have hlast : s.2 ≤ ((s :: t).getD ((s :: t).length - 1) (0, 0)).2 := by
      have hm : ((s :: t).getD ((s :: t).length - 1) (0, 0)) ∈ s :: t := by
        rw [List.getD_eq_getElem?_getD, List.getElem?_eq_getElem (by simp)]; exact List.getElem_mem _
      rcases List.mem_cons.1 hm with k | k
      · rw [k]; exact Int.le_refl _
      · have := vfrom_els h2.2 _ k; omega
    rw [e1]
    rw [lgaps, rhas_cons, ih]
    generalize ((s :: t).getD ((s :: t).length - 1) (0, 0)).2 = z at hlast ⊢
    rw [Bool.eq_false_iff, Bool.eq_false_iff, Ne, Ne, rhas_cons (t := s :: t)]
    simp only [List.getD_cons_zero]
    constructor
    · rintro (k | ⟨k1, k2, k3⟩)
      · refine ⟨?_, by omega, by omega⟩
        rintro (m | m)
        · omega
        · have := rhas_ge (b := s.1) (l := s :: t) (by rw [vfrom_cons]; exact ⟨⟨Int.le_refl _, h2.1.2⟩, h2.2⟩) m
          omega
      · refine ⟨?_, by omega, k3⟩
        rintro (m | m)
        · omega
        · exact k1 m
    · rintro ⟨k1, k2, k3⟩
      by_cases m : n ≤ s.1 - 1
      · refine .inl ⟨?_, m⟩
        apply Classical.byContradiction
        intro q
        exact k1 (.inl (by omega))
      · have hs : ¬ (s.1 ≤ n ∧ n ≤ s.2) := fun q => k1 (.inr (rhas_cons.2 (.inl q)))
        exact .inr ⟨fun q => k1 (.inr q), by omega, k3⟩

end Go.Proofs.Ytccolpaenmebeaa
