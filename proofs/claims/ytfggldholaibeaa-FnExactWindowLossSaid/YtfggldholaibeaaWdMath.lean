/- Chapter 23 in plain integers: windows (size, threshold, credit, round-trip time), the increase, an acknowledgement, a loss. -/
import Derived.Test.YtfggldholaibeaaBase
import Derived.Below
import Derived.IntWalk
namespace Go.Proofs.Ytfggldholaibeaa
open Go.RowKit
set_option linter.unusedVariables false
set_option linter.unusedSimpArgs false

abbrev Wd := Int × Int × Int × Int
def wdD : Wd := (0, 0, 0, 0)
def wok1 (p : Wd) : Prop := (1 ≤ p.1 ∧ p.1 ≤ 64) ∧ (1 ≤ p.2.1 ∧ p.2.1 ≤ 64) ∧ (0 ≤ p.2.2.1 ∧ p.2.2.1 ≤ 999) ∧ 1 ≤ p.2.2.2 ∧ p.2.2.2 ≤ 99
instance (p : Wd) : Decidable (wok1 p) := by unfold wok1; infer_instance
def wok (l : List Wd) : Prop := (1 ≤ l.length ∧ l.length ≤ 4) ∧ ∀ p ∈ l, wok1 p
instance (l : List Wd) : Decidable (wok l) := by unfold wok; infer_instance
/-- A valid list and one of its windows. -/
def wat (l : List Wd) (i : Int) : Prop := wok l ∧ 0 ≤ i ∧ i ≤ (l.length : Int) - 1
instance (l : List Wd) (i : Int) : Decidable (wat l i) := by unfold wat; infer_instance
def wb (p : Wd) : Int := p.1 * 100000000 / (p.2.2.2 * p.2.2.2)
def wq (p : Wd) : Int := p.1 * 10000 / p.2.2.2
def wbest (l : List Wd) : Int := l.foldl (fun b p => max b (wb p)) 0
def wsum (l : List Wd) : Int := l.foldl (fun s p => s + wq p) 0
def winc (l : List Wd) (p : Wd) : Int := min (1000 * wbest l / (wsum l * wsum l)) (1000 / p.1)
def ack1 (n : Int) (p : Wd) : Wd :=
  if p.1 < p.2.1 then (p.1 + 1, p.2.1, p.2.2.1, p.2.2.2)
  else if 1000 ≤ p.2.2.1 + n then (min (p.1 + 1) 64, p.2.1, p.2.2.1 + n - 1000, p.2.2.2)
  else (p.1, p.2.1, p.2.2.1 + n, p.2.2.2)
def loss1 (p : Wd) : Wd := (max (p.1 / 2) 1, max (p.1 / 2) 1, 0, p.2.2.2)
def wack (l : List Wd) (i : Nat) : List Wd := l.set i (ack1 (winc l (l.getD i wdD)) (l.getD i wdD))
def wloss (l : List Wd) (i : Nat) : List Wd := l.set i (loss1 (l.getD i wdD))
def wtot (l : List Wd) : Int := l.foldl (fun s p => s + p.1) 0
def wincv (l : List Wd) (i : Int) : Int := if wat l i then winc l (l.getD i.toNat wdD) else -1
def wackv (l : List Wd) (i : Int) : List Wd := if wat l i then wack l i.toNat else []
def wlossv (l : List Wd) (i : Int) : List Wd := if wat l i then wloss l i.toNat else []
def wtotv (l : List Wd) : Int := if wok l then wtot l else -1

theorem takeW (l : List Wd) (j : Nat) (h : j < l.length) : l.take (j + 1) = l.take j ++ [l.getD j wdD] ∧ l.getD j wdD ∈ l := by
  have e : l.getD j wdD = l[j] := by rw [List.getD_eq_getElem?_getD, List.getElem?_eq_getElem h]; rfl
  rw [e]
  exact ⟨List.take_succ_eq_append_getElem h, List.getElem_mem h⟩
theorem getW (l : List Wd) (j : Nat) (h : j < l.length) : l.getD j wdD = l[j] := by rw [List.getD_eq_getElem?_getD, List.getElem?_eq_getElem h]; rfl
theorem wbest_snoc (l : List Wd) (p : Wd) : wbest (l ++ [p]) = max (wbest l) (wb p) := by simp [wbest]
theorem wsum_snoc (l : List Wd) (p : Wd) : wsum (l ++ [p]) = wsum l + wq p := by simp [wsum]
theorem wtot_snoc (l : List Wd) (p : Wd) : wtot (l ++ [p]) = wtot l + p.1 := by simp [wtot]

theorem sq_pos {r : Int} (h : 1 ≤ r ∧ r ≤ 99) : 1 ≤ r * r ∧ r * r ≤ 9801 := by
  obtain ⟨n, rfl⟩ := Int.eq_ofNat_of_zero_le (show 0 ≤ r by omega)
  have h1 : 1 ≤ n := by omega
  have h2 : n ≤ 99 := by omega
  have := Nat.mul_le_mul h1 h1
  have := Nat.mul_le_mul h2 h2
  constructor <;> (rw [← Int.natCast_mul]; omega)
theorem div_bd {a b : Int} (ha : 0 ≤ a) (hb : 1 ≤ b) : 0 ≤ a / b ∧ a / b ≤ a := ⟨Int.ediv_nonneg ha (by omega), Int.ediv_le_self _ ha⟩
theorem wb_bd {p : Wd} (h : wok1 p) : 0 ≤ wb p ∧ wb p ≤ 6400000000 := by
  have k := sq_pos h.2.2.2
  have := div_bd (a := p.1 * 100000000) (b := p.2.2.2 * p.2.2.2) (by have := h.1; omega) k.1
  unfold wb
  have := h.1
  omega
theorem wq_bd {p : Wd} (h : wok1 p) : 1 ≤ wq p ∧ wq p ≤ 640000 := by
  obtain ⟨h1, h2, h3, h4, h5⟩ := h
  have k := div_bd (a := p.1 * 10000) (b := p.2.2.2) (by omega) h4
  have k2 : 1 ≤ p.1 * 10000 / p.2.2.2 := Int.le_ediv_of_mul_le (by omega) (by omega)
  unfold wq
  omega
theorem wbest_bd : ∀ (l : List Wd) (b : Int), (∀ p ∈ l, wok1 p) → 0 ≤ b ∧ b ≤ 6400000000 → 0 ≤ l.foldl (fun b p => max b (wb p)) b ∧ l.foldl (fun b p => max b (wb p)) b ≤ 6400000000
  | [], b, _, h => h
  | p :: t, b, hl, h => by
    have k := wb_bd (hl p (by simp))
    exact wbest_bd t _ (fun q hq => hl q (by simp [hq])) (show 0 ≤ max b (wb p) ∧ max b (wb p) ≤ 6400000000 by omega)
theorem wsum_bd : ∀ (l : List Wd) (s : Int), (∀ p ∈ l, wok1 p) → s + l.length ≤ l.foldl (fun s p => s + wq p) s ∧ l.foldl (fun s p => s + wq p) s ≤ s + 640000 * l.length
  | [], s, _ => by simp
  | p :: t, s, hl => by
    have k := wq_bd (hl p (by simp))
    have ih := wsum_bd t (s + wq p) (fun q hq => hl q (by simp [hq]))
    simp only [List.foldl_cons, List.length_cons]
    omega
theorem wtot_bd : ∀ (l : List Wd) (s : Int), (∀ p ∈ l, wok1 p) → s ≤ l.foldl (fun s p => s + p.1) s ∧ l.foldl (fun s p => s + p.1) s ≤ s + 64 * l.length
  | [], s, _ => by simp
  | p :: t, s, hl => by
    have k := (hl p (by simp)).1
    have ih := wtot_bd t (s + p.1) (fun q hq => hl q (by simp [hq]))
    simp only [List.foldl_cons, List.length_cons]
    omega
theorem take_ok {l : List Wd} (h : wok l) (j : Nat) : (∀ p ∈ l.take j, wok1 p) ∧ (l.take j).length ≤ 4 :=
  ⟨fun p hp => h.2 p (List.mem_of_mem_take hp), by have := h.1; rw [List.length_take]; omega⟩
/-- What the walks of the sums ask. -/
theorem part_bd {l : List Wd} (h : wok l) (j : Nat) : (0 ≤ wbest (l.take j) ∧ wbest (l.take j) ≤ 6400000000) ∧ (0 ≤ wsum (l.take j) ∧ wsum (l.take j) ≤ 2560000) ∧ 0 ≤ wtot (l.take j) ∧ wtot (l.take j) ≤ 256 := by
  obtain ⟨h1, h2⟩ := take_ok h j
  have a := wbest_bd _ 0 h1 (by omega)
  have b := wsum_bd _ 0 h1
  have c := wtot_bd _ 0 h1
  unfold wbest wsum wtot
  omega
theorem whole_bd {l : List Wd} (h : wok l) : (0 ≤ wbest l ∧ wbest l ≤ 6400000000) ∧ (1 ≤ wsum l ∧ wsum l ≤ 2560000) := by
  have a := wbest_bd _ 0 h.2 (by omega)
  have b := wsum_bd _ 0 h.2
  have := h.1
  unfold wbest wsum
  omega
theorem sq_bd {s : Int} (h : 1 ≤ s ∧ s ≤ 2560000) : 1 ≤ s * s ∧ s * s ≤ 6553600000000 := by
  obtain ⟨n, rfl⟩ := Int.eq_ofNat_of_zero_le (show 0 ≤ s by omega)
  have h1 : 1 ≤ n := by omega
  have h2 : n ≤ 2560000 := by omega
  have := Nat.mul_le_mul h1 h1
  have := Nat.mul_le_mul h2 h2
  constructor <;> (rw [← Int.natCast_mul]; omega)
theorem winc_bd {l : List Wd} (h : wok l) {p : Wd} (hp : wok1 p) : 0 ≤ winc l p ∧ winc l p ≤ 1000 / p.1 ∧ 1000 / p.1 ≤ 1000 := by
  have a := whole_bd h
  have b := sq_bd a.2
  have c := div_bd (a := 1000 * wbest l) (b := wsum l * wsum l) (by omega) b.1
  have d := div_bd (a := 1000) (b := p.1) (by omega) hp.1.1
  unfold winc
  omega
theorem ack1_ok {n : Int} {p : Wd} (hn : 0 ≤ n ∧ n ≤ 1000) (hp : wok1 p) : wok1 (ack1 n p) := by
  obtain ⟨h1, h2, h3, h4⟩ := hp
  unfold ack1
  split
  · exact ⟨by simp only; omega, h2, h3, h4⟩
  · split
    · exact ⟨by simp only; omega, h2, by simp only; omega, h4⟩
    · exact ⟨h1, h2, by simp only; omega, h4⟩
theorem loss1_ok {p : Wd} (hp : wok1 p) : wok1 (loss1 p) := by
  obtain ⟨h1, h2, h3, h4⟩ := hp
  exact ⟨by simp only [loss1]; omega, by simp only [loss1]; omega, by simp only [loss1]; omega, h4⟩
theorem set_ok {l : List Wd} (h : wok l) (i : Nat) {p : Wd} (hp : wok1 p) : wok (l.set i p) := by
  refine ⟨by rw [List.length_set]; exact h.1, fun q hq => ?_⟩
  rcases List.mem_or_eq_of_mem_set hq with hq | hq
  · exact h.2 q hq
  · rw [hq]; exact hp
theorem at_ok {l : List Wd} {i : Int} (h : wat l i) : i.toNat < l.length ∧ wok1 (l.getD i.toNat wdD) := by
  have hi : i.toNat < l.length := by have := h.2; omega
  exact ⟨hi, h.1.2 _ (takeW l _ hi).2⟩
theorem wack_ok {l : List Wd} {i : Int} (h : wat l i) : wok (wack l i.toNat) := by
  obtain ⟨hi, hp⟩ := at_ok h
  have k := winc_bd h.1 hp
  exact set_ok h.1 _ (ack1_ok (by omega) hp)
theorem wloss_ok {l : List Wd} {i : Int} (h : wat l i) : wok (wloss l i.toNat) := set_ok h.1 _ (loss1_ok (at_ok h).2)
end Go.Proofs.Ytfggldholaibeaa
