/- Chapter 23's laws at plain lists. -/
import Derived.Test.YtkncnebfmidcpaaWdMath
namespace Go.Proofs.Ytkncnebfmidcpaa
open Go.RowKit
set_option linter.unusedVariables false
set_option linter.unusedSimpArgs false

def nA (s r : Nat) : Nat := s * 100000000 / (r * r)
def nB (s r : Nat) : Nat := s * 10000 / r
def single1 (s r : Nat) : Bool := min (1000 * nA s r / (nB s r * nB s r)) (1000 / s) == 1000 / s || min (1000 * nA s r / (nB s r * nB s r)) (1000 / s) + 1 == 1000 / s
def copies1 (m s r : Nat) : Bool := decide (m * min (1000 * nA s r / ((m * nB s r) * (m * nB s r))) (1000 / s) ≤ 1000 / s)
theorem single_all : ((List.range 64).all fun s => (List.range 99).all fun r => single1 (s + 1) (r + 1)) = true := by decide +kernel
theorem copies_all : ((List.range 4).all fun m => (List.range 64).all fun s => (List.range 99).all fun r => copies1 (m + 1) (s + 1) (r + 1)) = true := by decide +kernel
theorem single_at {s r : Nat} (h1 : 1 ≤ s ∧ s ≤ 64) (h2 : 1 ≤ r ∧ r ≤ 99) : single1 s r = true := by
  have k := single_all
  rw [List.all_eq_true] at k
  have k1 := k (s - 1) (List.mem_range.2 (by omega))
  rw [List.all_eq_true] at k1
  have k2 := k1 (r - 1) (List.mem_range.2 (by omega))
  rwa [show s - 1 + 1 = s by omega, show r - 1 + 1 = r by omega] at k2
theorem copies_at {m s r : Nat} (h0 : 1 ≤ m ∧ m ≤ 4) (h1 : 1 ≤ s ∧ s ≤ 64) (h2 : 1 ≤ r ∧ r ≤ 99) : copies1 m s r = true := by
  have k := copies_all
  rw [List.all_eq_true] at k
  have k0 := k (m - 1) (List.mem_range.2 (by omega))
  rw [List.all_eq_true] at k0
  have k1 := k0 (s - 1) (List.mem_range.2 (by omega))
  rw [List.all_eq_true] at k1
  have k2 := k1 (r - 1) (List.mem_range.2 (by omega))
  rwa [show m - 1 + 1 = m by omega, show s - 1 + 1 = s by omega, show r - 1 + 1 = r by omega] at k2

theorem wbest_rep {p : Wd} (h : wok1 p) {m : Nat} (hm : 1 ≤ m ∧ m ≤ 4) : wbest (List.replicate m p) = wb p := by
  have k := wb_bd h
  rcases (by omega : m = 1 ∨ m = 2 ∨ m = 3 ∨ m = 4) with rfl | rfl | rfl | rfl <;> (simp only [wbest, List.replicate, List.foldl_cons, List.foldl_nil]; omega)
theorem wsum_rep (p : Wd) {m : Nat} (hm : 1 ≤ m ∧ m ≤ 4) : wsum (List.replicate m p) = (m : Int) * wq p := by
  rcases (by omega : m = 1 ∨ m = 2 ∨ m = 3 ∨ m = 4) with rfl | rfl | rfl | rfl <;> (simp only [wsum, List.replicate, List.foldl_cons, List.foldl_nil]; omega)
theorem wb_nat {s r : Nat} (y z : Int) : wb ((s : Int), y, z, (r : Int)) = ((nA s r : Nat) : Int) := by
  unfold wb nA; simp
theorem wq_nat {s r : Nat} (y z : Int) : wq ((s : Int), y, z, (r : Int)) = ((nB s r : Nat) : Int) := by
  unfold wq nB; simp
theorem rep_ok {p : Wd} (h : wok1 p) {m : Nat} (hm : 1 ≤ m ∧ m ≤ 4) : wok (List.replicate m p) :=
  ⟨by rw [List.length_replicate]; exact hm, fun q hq => by rw [(List.mem_replicate.1 hq).2]; exact h⟩
theorem winc_rep {s r m : Nat} {y z : Int} (h : wok1 ((s : Int), y, z, (r : Int))) (hm : 1 ≤ m ∧ m ≤ 4) : winc (List.replicate m ((s : Int), y, z, (r : Int))) ((s : Int), y, z, (r : Int)) = ((min (1000 * nA s r / ((m * nB s r) * (m * nB s r))) (1000 / s) : Nat) : Int) := by
  unfold winc
  rw [wbest_rep h hm, wsum_rep _ hm, wb_nat, wq_nat]
  simp only
  have a1 : (1000 * (nA s r : Int)) / (((m : Int) * (nB s r : Int)) * ((m : Int) * (nB s r : Int))) = ((1000 * nA s r / ((m * nB s r) * (m * nB s r)) : Nat) : Int) := by simp
  have a2 : (1000 : Int) / (s : Int) = ((1000 / s : Nat) : Int) := by simp
  rw [a1, a2]
  generalize 1000 * nA s r / ((m * nB s r) * (m * nB s r)) = u
  generalize 1000 / s = q
  omega
theorem nat_wd {p : Wd} (h : wok1 p) : ∃ (s r : Nat) (y z : Int), p = ((s : Int), y, z, (r : Int)) ∧ (1 ≤ s ∧ s ≤ 64) ∧ 1 ≤ r ∧ r ≤ 99 := by
  obtain ⟨x, y, z, t⟩ := p
  obtain ⟨h1, _, _, h4⟩ := h
  simp only at h1 h4
  obtain ⟨s, rfl⟩ := Int.eq_ofNat_of_zero_le (show 0 ≤ x by omega)
  obtain ⟨r, rfl⟩ := Int.eq_ofNat_of_zero_le (show 0 ≤ t by omega)
  exact ⟨s, r, y, z, rfl, by omega, by omega⟩
/-- A single path. -/
theorem winc_single {p : Wd} (h : wok1 p) : winc [p] p = 1000 / p.1 ∨ winc [p] p + 1 = 1000 / p.1 := by
  obtain ⟨s, r, y, z, rfl, h1, h2⟩ := nat_wd h
  have k := winc_rep h (m := 1) (by omega)
  have k2 := single_at h1 h2
  unfold single1 at k2
  simp only [Nat.one_mul, Bool.or_eq_true, beq_iff_eq] at k k2
  rw [show [((s : Int), y, z, (r : Int))] = List.replicate 1 ((s : Int), y, z, (r : Int)) from rfl, k]
  have e : (1000 : Int) / (s : Int) = ((1000 / s : Nat) : Int) := by simp
  simp only
  rw [e]
  generalize min (1000 * nA s r / (nB s r * nB s r)) (1000 / s) = q at k2 ⊢
  generalize 1000 / s = q2 at k2 ⊢
  omega
/-- Equal paths together. -/
theorem winc_copies {p : Wd} (h : wok1 p) {m : Nat} (hm : 1 ≤ m ∧ m ≤ 4) : (m : Int) * winc (List.replicate m p) p ≤ 1000 / p.1 := by
  obtain ⟨s, r, y, z, rfl, h1, h2⟩ := nat_wd h
  rw [winc_rep h hm]
  have k2 := of_decide_eq_true (copies_at hm h1 h2)
  have e : (1000 : Int) / (s : Int) = ((1000 / s : Nat) : Int) := by simp
  simp only
  rw [e, ← Int.natCast_mul]
  exact Int.ofNat_le.2 k2
theorem max_swap4 (a b c d : Int) : max (max (max (max 0 d) c) b) a = max (max (max (max 0 a) b) c) d := by omega
/-- The order does not matter. -/
theorem winc_rev {l : List Wd} (hl : l.length ≤ 4) (p : Wd) : winc l.reverse p = winc l p := by
  have e1 : wbest l.reverse = wbest l := by
    match l, hl with
    | [], _ => rfl
    | [a], _ => rfl
    | [a, b], _ => simp only [wbest, List.reverse_cons, List.reverse_nil, List.nil_append, List.cons_append, List.foldl_cons, List.foldl_nil]; omega
    | [a, b, c], _ => simp only [wbest, List.reverse_cons, List.reverse_nil, List.nil_append, List.cons_append, List.foldl_cons, List.foldl_nil]; omega
    | [a, b, c, d], _ => simp only [wbest, List.reverse_cons, List.reverse_nil, List.nil_append, List.cons_append, List.foldl_cons, List.foldl_nil]; omega
    | _ :: _ :: _ :: _ :: _ :: _, h => simp at h
  have e2 : wsum l.reverse = wsum l := by
    match l, hl with
    | [], _ => rfl
    | [a], _ => rfl
    | [a, b], _ => simp only [wsum, List.reverse_cons, List.reverse_nil, List.nil_append, List.cons_append, List.foldl_cons, List.foldl_nil]; omega
    | [a, b, c], _ => simp only [wsum, List.reverse_cons, List.reverse_nil, List.nil_append, List.cons_append, List.foldl_cons, List.foldl_nil]; omega
    | [a, b, c, d], _ => simp only [wsum, List.reverse_cons, List.reverse_nil, List.nil_append, List.cons_append, List.foldl_cons, List.foldl_nil]; omega
    | _ :: _ :: _ :: _ :: _ :: _, h => simp at h
  unfold winc
  rw [e1, e2]
theorem rev_ok {l : List Wd} (h : wok l) : wok l.reverse := ⟨by rw [List.length_reverse]; exact h.1, fun p hp => h.2 p (List.mem_reverse.1 hp)⟩
theorem rev_at {l : List Wd} {j : Nat} (hj : j < l.length) : l.reverse.getD j wdD = l.getD (l.length - 1 - j) wdD := by
  rw [getW _ _ (by rw [List.length_reverse]; exact hj), getW _ _ (by omega), List.getElem_reverse]
/-- Acknowledgements and losses at one window. -/
theorem ack1_size {n : Int} {p : Wd} (h : wok1 p) : (ack1 n p).2.1 = p.2.1 ∧ (ack1 n p).2.2.2 = p.2.2.2 ∧ p.1 ≤ (ack1 n p).1 ∧ (ack1 n p).1 ≤ p.1 + 1 := by
  have := h.1
  unfold ack1
  split
  · exact ⟨rfl, rfl, by show p.1 ≤ p.1 + 1; omega, by show p.1 + 1 ≤ p.1 + 1; omega⟩
  · split
    · exact ⟨rfl, rfl, by show p.1 ≤ min (p.1 + 1) 64; omega, by show min (p.1 + 1) 64 ≤ p.1 + 1; omega⟩
    · exact ⟨rfl, rfl, by show p.1 ≤ p.1; omega, by show p.1 ≤ p.1 + 1; omega⟩
theorem ack1_slow {n : Int} {p : Wd} (h : p.1 < p.2.1) : (ack1 n p).1 = p.1 + 1 ∧ (ack1 n p).2.2.1 = p.2.2.1 := by
  unfold ack1; rw [if_pos h]; exact ⟨rfl, rfl⟩
theorem ack1_credit {n : Int} {p : Wd} (h : wok1 p) (h1 : ¬ p.1 < p.2.1) (h2 : p.1 ≠ 64) : 1000 * (ack1 n p).1 + (ack1 n p).2.2.1 = 1000 * p.1 + p.2.2.1 + n := by
  have := h.1
  unfold ack1
  rw [if_neg h1]
  split <;> (simp only; omega)
theorem wtot_set : ∀ (l : List Wd) (k : Nat) (p : Wd) (s : Int), k < l.length → (l.set k p).foldl (fun s p => s + p.1) s = l.foldl (fun s p => s + p.1) s - (l.getD k wdD).1 + p.1
  | [], k, p, s, h => by simp at h
  | q :: t, 0, p, s, _ => by
    simp only [List.set_cons_zero, List.foldl_cons, List.getD_cons_zero]
    have key : ∀ (m : List Wd) (a b : Int), m.foldl (fun s p => s + p.1) (a + b) = m.foldl (fun s p => s + p.1) a + b := by
      intro m
      induction m with
      | nil => intro a b; rfl
      | cons r u ih => intro a b; simp only [List.foldl_cons]; rw [show a + b + r.1 = a + r.1 + b by omega, ih]
    rw [key, key]; omega
  | q :: t, k + 1, p, s, h => by
    simp only [List.set_cons_succ, List.foldl_cons, List.getD_cons_succ]
    exact wtot_set t k p _ (by simpa using h)
theorem wtot_ack {l : List Wd} {i : Int} (h : wat l i) : wtot l ≤ wtot (wack l i.toNat) ∧ wtot (wack l i.toNat) ≤ wtot l + 1 := by
  obtain ⟨hi, hp⟩ := at_ok h
  have k := ack1_size (n := winc l (l.getD i.toNat wdD)) hp
  unfold wack wtot
  rw [wtot_set l _ _ 0 hi]
  omega
theorem wtot_loss {l : List Wd} {i : Int} (h : wat l i) : wtot (wloss l i.toNat) ≤ wtot l := by
  obtain ⟨hi, hp⟩ := at_ok h
  have := hp.1
  unfold wloss wtot
  rw [wtot_set l _ _ 0 hi]
  unfold loss1
  simp only
  omega
/-- The sizes after j losses. -/
def hv : Nat → Int → Int
  | 0, s => s
  | j + 1, s => max (hv j s / 2) 1
theorem hv_six {s : Int} (h : 1 ≤ s ∧ s ≤ 64) : hv 7 s = 1 := by
  simp only [hv]; omega
end Go.Proofs.Ytkncnebfmidcpaa
