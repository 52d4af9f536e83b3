/- Chapter 2, plain lists: a set built number by number, its ranges in any order. -/
import Derived.Test.YtcjhbcibhcogjaaRgLaw
import Derived.Test.YtcjhbcibhcogjaaCntMath
namespace Go.Proofs.Ytcjhbcibhcogjaa
set_option linter.unusedVariables false
set_option linter.unusedSimpArgs false

def kk (len M i : Nat) : Nat := if len % 7 = 0 then len - 1 - i else (i * 7 + M) % len
theorem kk_lt {len M i : Nat} (h : i < len) : kk len M i < len := by
  unfold kk
  split
  · omega
  · exact Nat.mod_lt _ (by omega)
theorem kk_table : ∀ len, len < 17 → len % 7 ≠ 0 → ∀ m, m < len → ∀ p, p < len → ∃ j, j < len ∧ (j * 7 + m) % len = p := by decide +kernel
theorem kk_onto {len M p : Nat} (hl : len ≤ 16) (h : p < len) : ∃ j, j < len ∧ kk len M j = p := by
  unfold kk
  by_cases h7 : len % 7 = 0
  · exact ⟨len - 1 - p, by omega, by rw [if_pos h7]; omega⟩
  · obtain ⟨j, h1, h2⟩ := kk_table len (by omega) h7 (M % len) (Nat.mod_lt _ (by omega)) p h
    refine ⟨j, h1, ?_⟩
    rw [if_neg h7, Nat.add_mod, ← h2, Nat.add_mod (j * 7) (M % len), Nat.mod_mod]
def ysl (l : List (Int × Int)) (M i : Nat) : List (Int × Int) := (List.range i).map fun j => l.getD (kk l.length M j) (0, 0)
theorem ysl_succ (l : List (Int × Int)) (M i : Nat) : ysl l M (i + 1) = ysl l M i ++ [l.getD (kk l.length M i) (0, 0)] := by simp [ysl, List.range_succ]
theorem ysl_len (l : List (Int × Int)) (M i : Nat) : (ysl l M i).length = i := by simp [ysl]
theorem ysl_mem {l : List (Int × Int)} {M i : Nat} (hi : i ≤ l.length) : ∀ r ∈ ysl l M i, r ∈ l := by
  intro r hr
  simp only [ysl, List.mem_map, List.mem_range] at hr
  obtain ⟨j, hj, rfl⟩ := hr
  have := kk_lt (M := M) (show j < l.length by omega)
  rw [List.getD_eq_getElem?_getD, List.getElem?_eq_getElem this]
  exact List.getElem_mem _
/-- A set has no more ranges than a list of ranges with its numbers. -/
theorem canon_len {xs ys : List (Int × Int)} (hv : vfrom 0 xs = true) (hy : ∀ r ∈ ys, 0 ≤ r.1 ∧ r.1 ≤ r.2 ∧ r.2 ≤ 999) (h : ∀ n, rhas xs n = true ↔ rhas ys n = true) : xs.length ≤ ys.length := by
  obtain ⟨q1, q2, q3⟩ := lunion_props ys [] rfl hy
  have e : xs = lunion [] ys := vfrom_ext hv q1 fun n => by rw [h, q3, rhas_nil]; simp
  rw [e]
  simpa using q2
def part (y : Int) (t : Nat) : List (Int × Int) := if t = 0 then [] else [(y - t + 1, y)]
def CSt (l : List (Int × Int)) (M i : Nat) (p xs : List (Int × Int)) : Prop := vfrom 0 xs = true ∧ ∀ n, rhas xs n = true ↔ rhas (ysl l M i ++ p) n = true
theorem cst_len {l p xs : List (Int × Int)} {M i : Nat} (hl : vfrom 0 l = true) (hi : i ≤ l.length) (hp : ∀ r ∈ p, 0 ≤ r.1 ∧ r.1 ≤ r.2 ∧ r.2 ≤ 999) (h : CSt l M i p xs) : xs.length ≤ i + p.length := by
  have := canon_len h.1 (ys := ysl l M i ++ p) (fun r hr => by
    rcases List.mem_append.1 hr with k | k
    · exact vfrom_els hl r (ysl_mem hi r k)
    · exact hp r k) h.2
  rwa [List.length_append, ysl_len] at this
theorem cst_add {l xs : List (Int × Int)} {M i t : Nat} {x y : Int} (hl : rvalid l = true) (hi : i < l.length) (hx0 : 0 ≤ x) (hxy : x ≤ y) (hy : y ≤ 999) (ht : x ≤ y - (t : Int)) (h : CSt l M i (part y t) xs) :
    raddOk xs (y - (t : Int)) (y - (t : Int)) = true ∧ CSt l M i (part y (t + 1)) (radd xs (y - (t : Int)) (y - (t : Int))) ∧ xs.length ≤ 17 := by
  obtain ⟨hf, hl16⟩ := rvalid_parts hl
  have hp0 : ∀ r ∈ part y t, 0 ≤ r.1 ∧ r.1 ≤ r.2 ∧ r.2 ≤ 999 := by
    intro r hr
    unfold part at hr
    split at hr
    · simp at hr
    · have : r = (y - t + 1, y) := by simpa using hr
      rw [this]; simp only; omega
  have hp1 : ∀ r ∈ part y (t + 1), 0 ≤ r.1 ∧ r.1 ≤ r.2 ∧ r.2 ≤ 999 := by
    intro r hr
    unfold part at hr
    rw [if_neg (by omega)] at hr
    have : r = (y - ((t + 1 : Nat) : Int) + 1, y) := by simpa using hr
    rw [this]; simp only; omega
  have hlen := cst_len hf (Nat.le_of_lt hi) hp0 h
  have hpl : (part y t).length ≤ 1 := by unfold part; split <;> simp
  obtain ⟨a1, a2, a3⟩ := ladd_props (lo := y - (t : Int)) (hi := y - (t : Int)) h.1 (by omega) (Int.le_refl _) (by omega)
  have hst : CSt l M i (part y (t + 1)) (ladd xs (y - (t : Int)) (y - (t : Int))) := by
    refine ⟨a1, fun n => ?_⟩
    rw [a3, h.2, rhas_app, rhas_app, or_assoc]
    have e : rhas (part y (t + 1)) n = true ↔ rhas (part y t) n = true ∨ (y - (t : Int) ≤ n ∧ n ≤ y - (t : Int)) := by
      unfold part
      rw [if_neg (show ¬ t + 1 = 0 by omega), rhas_cons, rhas_nil, or_false]
      by_cases h0 : t = 0
      · rw [if_pos h0, rhas_nil, false_or]
        simp only
        omega
      · rw [if_neg h0, rhas_cons, rhas_nil, or_false]
        simp only
        omega
    rw [e]
  have hlen2 := cst_len hf (Nat.le_of_lt hi) hp1 hst
  have hpl2 : (part y (t + 1)).length = 1 := by unfold part; rw [if_neg (by omega)]; rfl
  have hok : raddOk xs (y - (t : Int)) (y - (t : Int)) = true := by
    unfold raddOk rvalid spanOk
    rw [h.1, decide_eq_true (show xs.length ≤ 16 by omega), decide_eq_true (show 0 ≤ y - (t : Int) ∧ y - (t : Int) ≤ y - (t : Int) ∧ y - (t : Int) ≤ 999 by omega), decide_eq_true (show (ladd xs (y - (t : Int)) (y - (t : Int))).length ≤ 16 by omega)]
    rfl
  refine ⟨hok, ?_, by omega⟩
  rw [radd_eq hok]
  exact hst
theorem cst_next {l xs : List (Int × Int)} {M i t : Nat} {x y : Int} (hxe : l.getD (kk l.length M i) (0, 0) = (x, y)) (hxy : x ≤ y) (ht : (t : Int) = y - x + 1) (h : CSt l M i (part y t) xs) : CSt l M (i + 1) (part 0 0) xs := by
  refine ⟨h.1, fun n => ?_⟩
  rw [h.2, ysl_succ, hxe, rhas_app, rhas_app, rhas_app]
  unfold part
  rw [if_neg (show ¬ t = 0 by omega), if_pos rfl, show y - (t : Int) + 1 = x by omega, rhas_nil, or_false]
theorem cst_end {l xs : List (Int × Int)} {M : Nat} (hl : rvalid l = true) (h : CSt l M l.length (part 0 0) xs) : xs = l := by
  obtain ⟨hf, hl16⟩ := rvalid_parts hl
  refine vfrom_ext h.1 hf fun n => ?_
  rw [h.2]
  unfold part
  rw [if_pos rfl, List.append_nil, rhas_mem, rhas_mem]
  constructor
  · rintro ⟨r, hr, k⟩
    exact ⟨r, ysl_mem (Nat.le_refl _) r hr, k⟩
  · rintro ⟨r, hr, k⟩
    obtain ⟨p, hp, he⟩ := List.getElem_of_mem hr
    obtain ⟨j, hj, hk⟩ := kk_onto (M := M) hl16 hp
    refine ⟨r, ?_, k⟩
    simp only [ysl, List.mem_map, List.mem_range]
    refine ⟨j, hj, ?_⟩
    rw [hk, List.getD_eq_getElem?_getD, List.getElem?_eq_getElem hp, ← he]
    rfl

end Go.Proofs.Ytcjhbcibhcogjaa
