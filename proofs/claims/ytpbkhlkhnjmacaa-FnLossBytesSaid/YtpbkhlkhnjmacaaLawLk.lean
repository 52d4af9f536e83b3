/- The laws of LossAck: plain facts. -/
import Derived.Test.YtpbkhlkhnjmacaaSameLs
import Derived.Test.YtpbkhlkhnjmacaaDrLk
import Derived.Test.YtpbkhlkhnjmacaaIVa
import Derived.Test.YtpbkhlkhnjmacaaSLe
import Derived.Test.YtpbkhlkhnjmacaaSame
namespace Go.Proofs.Ytpbkhlkhnjmacaa
open Go.RowKit
set_option linter.unusedVariables false
set_option linter.unusedSimpArgs false

theorem lackv_true {n g t d rn rg : Int} {l rl : List Pk} {rs : List (Int × Int)} {gi li : List Int} (h : lackv (n, l, g) rs t d = (((rn, rl, rg), gi, li), true)) :
    lackok (n, l, g) rs t d ∧ n = rn ∧ keptL rs (topR g rs) t d l = rl ∧ topR g rs = rg ∧ gotL rs l = gi ∧ lostL rs (topR g rs) t d l = li := by
  by_cases hc : lackok (n, l, g) rs t d
  · rw [lackv_yes hc] at h
    unfold lack at h
    simp only [Prod.mk.injEq, and_true] at h
    obtain ⟨⟨h1, h2, h3⟩, h4, h5⟩ := h
    exact ⟨hc, h1, h2, h3, h4, h5⟩
  · rw [lackv_no hc] at h; simp at h
theorem lackv_len {n g t d rn rg : Int} {l rl : List Pk} {rs : List (Int × Int)} {gi li : List Int} {rb : Bool} (h : lackv (n, l, g) rs t d = (((rn, rl, rg), gi, li), rb)) : rl.length ≤ l.length ∧ gi.length ≤ l.length ∧ li.length ≤ l.length := by
  by_cases hc : lackok (n, l, g) rs t d
  · rw [lackv_yes hc] at h
    unfold lack gotL lostL keptL at h
    simp only [Prod.mk.injEq] at h
    obtain ⟨⟨⟨_, h2, _⟩, h4, h5⟩, _⟩ := h
    rw [← h2, ← h4, ← h5]
    exact ⟨List.length_filter_le _ _, by rw [List.length_map]; exact List.length_filter_le _ _, by rw [List.length_map]; exact List.length_filter_le _ _⟩
  · rw [lackv_no hc] at h
    simp only [Prod.mk.injEq] at h
    obtain ⟨⟨⟨_, h2, _⟩, h4, h5⟩, _⟩ := h
    rw [← h2, ← h4, ← h5]; simp
/-- The last number of a valid set is in the set. -/
theorem lastN_has {rs : List (Int × Int)} (h : rvalid rs = true) (hn : rs ≠ []) : hasR rs (lastN rs) = true := by
  unfold lastN
  rw [if_neg hn]
  have hp := List.length_pos_iff.2 hn
  have e : rs.getD (rs.length - 1) (0, 0) = rs[rs.length - 1] := by rw [List.getD_eq_getElem?_getD, List.getElem?_eq_getElem (by omega)]; rfl
  rw [e]
  unfold hasR
  refine List.any_eq_true.2 ⟨rs[rs.length - 1], List.getElem_mem _, ?_⟩
  have hv := (rvalid_parts h).1
  have := vfrom_els hv _ (List.getElem_mem (show rs.length - 1 < rs.length by omega))
  exact decide_eq_true ⟨this.2.1, Int.le_refl _⟩
theorem lackok_out {n g t d : Int} {l : List Pk} {rs : List (Int × Int)} (h : lackok (n, l, g) rs t d) : lok (lack (n, l, g) rs t d).1 := by
  obtain ⟨h1, h2, h3, _⟩ := h
  refine lack_ok h1 (fun x hx => ?_) (fun x hx => ?_)
  all_goals
    have hne : rs ≠ [] := by rintro rfl; rw [lastR_nil] at hx; cases hx
    rw [lastR_ne hne] at hx
    have e : lastN rs = x := by unfold lastN; rw [if_neg hne]; exact Option.some.inj hx
  · rw [← e]; exact h3
  · rw [← e]; exact lastN_has h2 hne

theorem lack_all {n g t d : Int} {l : List Pk} (h : lok (n, l, g)) (hn : n ≠ 0) (ht : 0 ≤ t ∧ t ≤ 999) (hd : 1 ≤ d ∧ d ≤ 1998) : ∃ (x : Int) (gs : List Int), gs.length = l.length ∧ lackv (n, l, g) [(0, n - 1)] t d = (((n, [], x), gs, []), true) := by
  have hn0 : 0 ≤ n ∧ n ≤ 1000 := h.1
  have hv : rvalid [(0, n - 1)] = true := by
    unfold rvalid
    rw [Bool.and_eq_true]
    exact ⟨vfrom_cons.2 ⟨⟨by omega, by omega, by omega⟩, rfl⟩, by simp⟩
  have hk : lackok (n, l, g) [(0, n - 1)] t d := ⟨h, hv, by show n - 1 < n; omega, ht, hd⟩
  have hall : ∀ p ∈ l, hasR [(0, n - 1)] p.1 = true := fun p hp => by
    have hp1 : 0 ≤ p.1 ∧ p.1 ≤ n - 1 := (h.2.2.2.1 p hp).1
    unfold hasR
    simp only [List.any_cons, List.any_nil, Bool.or_false]
    exact decide_eq_true hp1
  refine ⟨topR g [(0, n - 1)], gotL [(0, n - 1)] l, ?_, ?_⟩
  · unfold gotL
    rw [List.length_map, List.filter_eq_self.2 (fun p hp => hall p hp)]
  · rw [lackv_yes hk]
    unfold lack
    have e1 : keptL [(0, n - 1)] (topR g [(0, n - 1)]) t d l = [] := by
      unfold keptL
      rw [List.filter_eq_nil_iff]
      intro p hp; rw [hall p hp]; simp
    have e2 : lostL [(0, n - 1)] (topR g [(0, n - 1)]) t d l = [] := by
      unfold lostL
      rw [List.map_eq_nil_iff, List.filter_eq_nil_iff]
      intro p hp; rw [hall p hp]; simp
    simp only [e1, e2]
theorem lok_zero {g : Int} {l : List Pk} (h : lok (0, l, g)) : l = [] := by
  cases l with
  | nil => rfl
  | cons p t =>
    have : 0 ≤ p.1 ∧ p.1 ≤ 0 - 1 := (h.2.2.2.1 p (List.mem_cons_self ..)).1
    omega
theorem rng_nil (W : World) (b : Nat) : Rngs W (.slice (some ⟨b, 0, none⟩) 0 0) [] := ⟨some ⟨b, 0, none⟩, 0, rfl, fun h => absurd rfl h⟩
theorem row_first {W : World} {a : Option Addr} {c : Nat} {l : List Pk} {p1 p2 p3 : Int} (h : Pks W (.slice a l.length c) l) (hi : 0 < l.length) (hp : l.getD 0 pkD = (p1, p2, p3)) : ∃ g o, a = some ⟨g, o, none⟩ ∧ W.cell? ⟨g, o, none⟩ = some (.int .i64 p1) := by
  obtain ⟨a', c', he, _, hC⟩ := h
  obtain ⟨g, o, ha, hc⟩ := hC (by rintro rfl; simp at hi)
  simp only [Value.slice.injEq, true_and] at he
  refine ⟨g, o, he.1.trans ha, ?_⟩
  have := (hc 0 hi).1
  rw [hp] at this
  simpa using this
theorem row_at {W : World} {a : Option Addr} {c i : Nat} {l : List Pk} (h : Pks W (.slice a l.length c) l) (hi : i < l.length) : ∃ g o, a = some ⟨g, o, none⟩ ∧ PkAt W g (o + i * 3) (l.getD i pkD) := by
  obtain ⟨a', c', he, _, hC⟩ := h
  obtain ⟨g, o, ha, hc⟩ := hC (by rintro rfl; simp at hi)
  simp only [Value.slice.injEq, true_and] at he
  exact ⟨g, o, he.1.trans ha, hc i hi⟩
theorem pk_uniq {l : List Pk} (h : l.Pairwise PL) {p q : Pk} (hp : p ∈ l) (hq : q ∈ l) (e : p.1 = q.1) : p = q := by
  obtain ⟨i, hi, rfl⟩ := List.mem_iff_getElem.1 hp
  obtain ⟨j, hj, rfl⟩ := List.mem_iff_getElem.1 hq
  rcases Nat.lt_trichotomy i j with hij | hij | hij
  · have := (List.pairwise_iff_getElem.1 h i j hi hj hij).1; omega
  · subst hij; rfl
  · have := (List.pairwise_iff_getElem.1 h j i hj hi hij).1; omega
/-- What became of a packet that was in flight. -/
theorem in_got {l : List Pk} {rs : List (Int × Int)} {p : Pk} (h : l.Pairwise PL) (hp : p ∈ l) : p.1 ∈ gotL rs l ↔ hasR rs p.1 = true := by
  unfold gotL
  rw [List.mem_map]
  constructor
  · rintro ⟨q, hq, e⟩
    obtain ⟨hq1, hq2⟩ := List.mem_filter.1 hq
    rw [pk_uniq h hp hq1 e.symm]; exact hq2
  · exact fun hh => ⟨p, List.mem_filter.2 ⟨hp, hh⟩, rfl⟩
theorem in_lost {l : List Pk} {rs : List (Int × Int)} {top t d : Int} {p : Pk} (h : l.Pairwise PL) (hp : p ∈ l) : p.1 ∈ lostL rs top t d l ↔ (hasR rs p.1 = false ∧ isLost top t d p = true) := by
  unfold lostL
  rw [List.mem_map]
  constructor
  · rintro ⟨q, hq, e⟩
    obtain ⟨hq1, hq2⟩ := List.mem_filter.1 hq
    rw [pk_uniq h hp hq1 e.symm]; simpa using hq2
  · exact fun hh => ⟨p, List.mem_filter.2 ⟨hp, by simpa using hh⟩, rfl⟩
theorem in_kept {l : List Pk} {rs : List (Int × Int)} {top t d : Int} {p : Pk} (h : l.Pairwise PL) (hp : p ∈ l) : p.1 ∈ (keptL rs top t d l).map (·.1) ↔ (hasR rs p.1 = false ∧ isLost top t d p = false) := by
  unfold keptL
  rw [List.mem_map]
  constructor
  · rintro ⟨q, hq, e⟩
    obtain ⟨hq1, hq2⟩ := List.mem_filter.1 hq
    rw [pk_uniq h hp hq1 e.symm]; simpa using hq2
  · exact fun hh => ⟨p, List.mem_filter.2 ⟨hp, by simpa using hh⟩, rfl⟩
theorem ints_at {W : World} {a : Option Addr} {c : Nat} {xs : List Int} (h : Ints W (.slice a xs.length c) xs) (hi : 0 < xs.length) : ∃ g o, a = some ⟨g, o, none⟩ ∧ ∀ i, i < xs.length → W.cell? ⟨g, o + i, none⟩ = some (.int .i64 (xs.getD i 0)) := by
  obtain ⟨a', c', he, hC⟩ := h
  obtain ⟨g, o, ha, hc⟩ := hC (by rintro rfl; simp at hi)
  simp only [Value.slice.injEq, true_and] at he
  exact ⟨g, o, he.1.trans ha, hc⟩
/-- The bytes of the packets that are no longer in flight. -/
def goneB (k : List Int) (l : List Pk) : Int := lbytes (l.filter fun p => !decide (p.1 ∈ k))
theorem goneB_snoc (k : List Int) (l : List Pk) (p : Pk) : goneB k (l ++ [p]) = goneB k l + (if decide (p.1 ∈ k) = true then 0 else p.2.2) := by
  unfold goneB lbytes
  rw [List.filter_append, List.map_append, List.sum_append]
  by_cases h : p.1 ∈ k <;> simp [h]
theorem lbytes_bd2 : ∀ (l : List Pk), (∀ p ∈ l, 1 ≤ p.2.2 ∧ p.2.2 ≤ 99) → 0 ≤ lbytes l ∧ lbytes l ≤ 99 * l.length
  | [], _ => by simp [lbytes]
  | p :: t, h => by
    obtain ⟨k1, k2⟩ := lbytes_bd2 t (fun q hq => h q (List.mem_cons_of_mem _ hq))
    obtain ⟨k3, k4⟩ := h p (List.mem_cons_self ..)
    unfold lbytes at k1 k2 ⊢
    simp only [List.map_cons, List.sum_cons, List.length_cons]
    omega
theorem goneB_bd {k : List Int} {l : List Pk} (h : ∀ p ∈ l, 1 ≤ p.2.2 ∧ p.2.2 ≤ 99) (hl : l.length ≤ 12) : 0 ≤ goneB k l ∧ goneB k l ≤ 1188 := by
  obtain ⟨k1, k2⟩ := lbytes_bd2 (l.filter fun p => !decide (p.1 ∈ k)) (fun p hp => h p (List.mem_filter.1 hp).1)
  have := List.length_filter_le (fun p : Pk => !decide (p.1 ∈ k)) l
  unfold goneB
  omega
theorem split_sum (f : Pk → Bool) : ∀ (l : List Pk), lbytes (l.filter f) + lbytes (l.filter fun p => !f p) = lbytes l
  | [] => rfl
  | p :: t => by
    have ih := split_sum f t
    unfold lbytes at ih ⊢
    cases h : f p <;> simp [h] <;> omega
theorem goneB_all {rs : List (Int × Int)} {top t d : Int} {l : List Pk} (h : l.Pairwise PL) : lbytes (keptL rs top t d l) = lbytes l - goneB ((keptL rs top t d l).map (·.1)) l := by
  have e : (l.filter fun p => !decide (p.1 ∈ (keptL rs top t d l).map (·.1))) = l.filter fun p => !(!hasR rs p.1 && !isLost top t d p) := by
    refine List.filter_congr fun p hp => ?_
    have hk := in_kept (rs := rs) (top := top) (t := t) (d := d) h hp
    by_cases hm : p.1 ∈ (keptL rs top t d l).map (·.1)
    · obtain ⟨h1, h2⟩ := hk.1 hm
      rw [decide_eq_true hm, h1, h2]; rfl
    · rw [decide_eq_false hm]
      cases h1 : hasR rs p.1 <;> cases h2 : isLost top t d p <;> first | rfl | exact absurd (hk.2 ⟨h1, h2⟩) hm
  unfold goneB
  rw [e]
  have := split_sum (fun p => !hasR rs p.1 && !isLost top t d p) l
  unfold keptL
  omega
theorem rng_one (w : World) (lo hi : Int) (T : TypeId) : Rngs (w.alloc (.cells #[.int .i64 lo, .int .i64 hi] T)) (.slice (some ⟨w.heap.size, 0, none⟩) 1 1) [(lo, hi)] := by
  refine ⟨some ⟨w.heap.size, 0, none⟩, 1, rfl, fun _ => ⟨w.heap.size, 0, rfl, fun i hi => ?_⟩⟩
  have : i = 0 := by simp at hi; omega
  subst this
  constructor <;> (rw [World.cell?_alloc_mark]; rfl)

theorem timer_lost {n g d p1 p2 p3 : Int} {l : List Pk} (h : lok (n, l, g)) (hd : 1 ≤ d ∧ d ≤ 1998) (h0 : l.getD 0 pkD = (p1, p2, p3)) (hl : 0 < l.length) (hg : p1 < g) (x : Int) (hx : x = if 999 < p2 + d then 999 else p2 + d) : ∃ (kl : List Pk) (y : Int) (gs ls : List Int), lackv (n, l, g) [] x d = (((n, kl, y), gs, ls), true) ∧ (¬ 999 < p2 + d → p1 ∈ ls) ∧ ls.length ≤ l.length ∧ gs.length ≤ l.length := by
  have hm : (p1, p2, p3) ∈ l := by
    rw [← h0, List.getD_eq_getElem?_getD, List.getElem?_eq_getElem hl]; exact List.getElem_mem hl
  have hp : 0 ≤ p2 ∧ p2 ≤ 999 := (h.2.2.2.1 _ hm).2.1
  have hn : 0 ≤ n := h.1.1
  have hk : lackok (n, l, g) [] x d := ⟨h, rfl, by show (-1 : Int) < n; omega, ⟨by rw [hx]; split <;> omega, by rw [hx]; split <;> omega⟩, hd⟩
  refine ⟨_, _, _, _, lackv_yes hk, fun h9 => ?_, ?_, ?_⟩
  · rw [if_neg h9] at hx
    show p1 ∈ lostL [] (topR g []) x d l
    unfold lostL
    refine List.mem_map.2 ⟨(p1, p2, p3), List.mem_filter.2 ⟨hm, ?_⟩, rfl⟩
    have e1 : hasR [] p1 = false := rfl
    have e2 : isLost (topR g []) x d (p1, p2, p3) = true := decide_eq_true ⟨hg, .inr (by show p2 ≤ x - d; omega)⟩
    simp only [e1, e2]; rfl
  · show (lostL [] (topR g []) x d l).length ≤ l.length
    unfold lostL; rw [List.length_map]; exact List.length_filter_le _ _
  · show (gotL [] l).length ≤ l.length
    unfold gotL; rw [List.length_map]; exact List.length_filter_le _ _

end Go.Proofs.Ytpbkhlkhnjmacaa
