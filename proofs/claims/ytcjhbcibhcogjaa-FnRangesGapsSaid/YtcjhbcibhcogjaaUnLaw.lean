/- Chapter 2, plain lists: what the laws on unions and gaps say. -/
import Derived.Test.YtcjhbcibhcogjaaUnMath
namespace Go.Proofs.Ytcjhbcibhcogjaa
set_option linter.unusedVariables false
set_option linter.unusedSimpArgs false

theorem runionOk_of {a b : List (Int × Int)} (ha : rvalid a = true) (hb : rvalid b = true) (h : (lunion a b).length ≤ 16) : runionOk a b = true ∧ runion a b = lunion a b := by
  have : runionOk a b = true := by unfold runionOk; rw [ha, hb, decide_eq_true h]; rfl
  exact ⟨this, (runionOk_parts this).2.2.2⟩
theorem union_order {a b : List (Int × Int)} (h : runionOk a b = true) : runionOk b a = true ∧ runion b a = runion a b ∧ runionOk a a = true ∧ runion a a = a := by
  obtain ⟨ha, hb, hl, he⟩ := runionOk_parts h
  have va := rvalid_parts ha
  have vb := rvalid_parts hb
  have pab := lunion_props b a va.1 (fun r hr => vfrom_els vb.1 r hr)
  have pba := lunion_props a b vb.1 (fun r hr => vfrom_els va.1 r hr)
  have paa := lunion_props a a va.1 (fun r hr => vfrom_els va.1 r hr)
  have e1 : lunion b a = lunion a b := vfrom_ext pba.1 pab.1 fun n => by rw [pba.2.2, pab.2.2]; exact Or.comm
  have e2 : lunion a a = a := vfrom_ext paa.1 va.1 fun n => by rw [paa.2.2]; exact or_self_iff
  obtain ⟨x1, x2⟩ := runionOk_of hb ha (by rw [e1]; exact hl)
  obtain ⟨y1, y2⟩ := runionOk_of ha ha (by rw [e2]; exact va.2)
  exact ⟨x1, by rw [x2, he, e1], y1, by rw [y2, e2]⟩
/-- A set with its gaps is one range. -/
theorem union_gaps {l : List (Int × Int)} (hv : rvalid l = true) (h0 : l ≠ []) : rvalid (lgaps l) = true ∧ runionOk l (lgaps l) = true ∧ runion l (lgaps l) = [((l.getD 0 (0, 0)).1, (l.getD (l.length - 1) (0, 0)).2)] := by
  have va := rvalid_parts hv
  have vg := vfrom_mono (b' := 0) (lgaps_valid va.1) (by omega)
  have hg : rvalid (lgaps l) = true := by unfold rvalid; rw [vg, lgaps_len, decide_eq_true (by omega)]; rfl
  have p := lunion_props (lgaps l) l va.1 (fun r hr => vfrom_els vg r hr)
  have hpos : 0 < l.length := List.length_pos_iff.2 h0
  have mem : ∀ i, i < l.length → l.getD i (0, 0) ∈ l := fun i hi => by rw [List.getD_eq_getElem?_getD, List.getElem?_eq_getElem hi]; exact List.getElem_mem _
  have hf := vfrom_els va.1 _ (mem 0 hpos)
  have hz := vfrom_els va.1 _ (mem (l.length - 1) (by omega))
  have hlow : ∀ n, rhas l n = true → (l.getD 0 (0, 0)).1 ≤ n := by
    intro n hn
    cases l with
    | nil => exact absurd rfl h0
    | cons r t =>
      have hvr := va.1
      rw [vfrom_cons] at hvr
      exact (rhas_ge (b := r.1) (l := r :: t) (by rw [vfrom_cons]; exact ⟨⟨Int.le_refl _, hvr.1.2⟩, hvr.2⟩) hn).1
  have hup : ∀ (m : List (Int × Int)) (b : Int), vfrom b m = true → m ≠ [] → ∀ n, rhas m n = true → n ≤ (m.getD (m.length - 1) (0, 0)).2 := by
    intro m
    induction m with
    | nil => intro b _ h; exact absurd rfl h
    | cons r t ih =>
      intro b hb _ n hn
      rw [vfrom_cons] at hb
      cases t with
      | nil =>
        rw [rhas_cons, rhas_nil, or_false] at hn
        simpa using hn.2
      | cons s u =>
        have e1 : ((r :: s :: u).getD ((r :: s :: u).length - 1) (0, 0)) = ((s :: u).getD ((s :: u).length - 1) (0, 0)) := by simp [List.getD]
        rw [e1]
        rcases rhas_cons.1 hn with k | k
        · have h2 := hb.2
          have hm : ((s :: u).getD ((s :: u).length - 1) (0, 0)) ∈ s :: u := by
            rw [List.getD_eq_getElem?_getD, List.getElem?_eq_getElem (by simp)]; exact List.getElem_mem _
          have := vfrom_els h2 _ hm
          omega
        · exact ih _ hb.2 (by simp) n k
  have hord : (l.getD 0 (0, 0)).1 ≤ (l.getD (l.length - 1) (0, 0)).2 := by
    have := hlow (l.getD (l.length - 1) (0, 0)).2 (rhas_mem.2 ⟨_, mem (l.length - 1) (by omega), hz.2.1, Int.le_refl _⟩)
    exact this
  have e : lunion l (lgaps l) = [((l.getD 0 (0, 0)).1, (l.getD (l.length - 1) (0, 0)).2)] := by
    refine vfrom_ext p.1 (by rw [vfrom_cons]; exact ⟨⟨hf.1, hord, hz.2.2⟩, rfl⟩) fun n => ?_
    rw [p.2.2, lgaps_has n va.1 h0, rhas_cons, rhas_nil, or_false]
    constructor
    · rintro (k | ⟨k1, k2, k3⟩)
      · exact ⟨hlow n k, hup l 0 va.1 h0 n k⟩
      · exact ⟨by simp only; omega, by simp only; omega⟩
    · rintro ⟨k1, k2⟩
      simp only at k1 k2
      cases hh : rhas l n with
      | true => exact .inl rfl
      | false =>
        right
        refine ⟨rfl, ?_, ?_⟩
        · rcases Int.lt_or_eq_of_le k1 with z | z
          · exact z
          · exfalso
            have : rhas l n = true := rhas_mem.2 ⟨_, mem 0 hpos, by omega, by omega⟩
            rw [hh] at this; cases this
        · rcases Int.lt_or_eq_of_le k2 with z | z
          · exact z
          · exfalso
            have : rhas l n = true := rhas_mem.2 ⟨_, mem (l.length - 1) (by omega), by omega, by omega⟩
            rw [hh] at this; cases this
  obtain ⟨x1, x2⟩ := runionOk_of hv hg (by rw [e]; simp)
  exact ⟨hg, x1, by rw [x2, e]⟩

end Go.Proofs.Ytcjhbcibhcogjaa
