/- Chapter 12 in plain integers: the tag of a token, the allowance. -/
import Derived.Test.YtbmlckhjjfipbaaDoorBase
import Derived.Below
import Derived.IntWalk
namespace Go.Proofs.YtbmlckhjjfipbaaDoor
open Go.RowKit
set_option linter.unusedVariables false
set_option linter.unusedSimpArgs false

def tkr (s a t : Int) : Nat → Int
  | 0 => s + 1
  | k + 1 => (tkr s a t k * tkr s a t k + s * a + 7 * t + 11 * a + k) % 997
def tkt (s a t : Int) : Int := tkr s a t 3
def tkok (s a t : Int) : Prop := (0 ≤ s ∧ s ≤ 96) ∧ (1 ≤ a ∧ a ≤ 99) ∧ (0 ≤ t ∧ t ≤ 999)
instance (s a t : Int) : Decidable (tkok s a t) := by unfold tkok; infer_instance

theorem mul_bd {x y m n : Int} (hx : 0 ≤ x) (hm : x ≤ m) (hy : 0 ≤ y) (hn : y ≤ n) : 0 ≤ x * y ∧ x * y ≤ m * n :=
  ⟨Int.mul_nonneg hx hy, Int.mul_le_mul hm hn hy (by omega)⟩
theorem tkr_bd (s a t : Int) (h0 : 0 ≤ s) (h1 : s ≤ 96) : ∀ k, 0 ≤ tkr s a t k ∧ tkr s a t k ≤ 996
  | 0 => by unfold tkr; omega
  | k + 1 => by
    unfold tkr
    exact ⟨Int.emod_nonneg _ (by decide), by have := Int.emod_lt_of_pos (tkr s a t k * tkr s a t k + s * a + 7 * t + 11 * a + k) (show (0 : Int) < 997 by decide); omega⟩
theorem tkt_bd {s a t : Int} (h : tkok s a t) : 0 ≤ tkt s a t ∧ tkt s a t ≤ 996 := tkr_bd s a t h.1.1 h.1.2 3

/-- The allowance. -/
def allow (r s : Int) (v : Bool) : Int :=
  if (0 ≤ r ∧ r ≤ 9999) ∧ (0 ≤ s ∧ s ≤ 9999) then (if v = true then 9999 - s else min (max (3 * r - s) 0) (9999 - s)) else 0
theorem allow_no {r s : Int} {v : Bool} (h : ¬ ((0 ≤ r ∧ r ≤ 9999) ∧ (0 ≤ s ∧ s ≤ 9999))) : allow r s v = 0 := by unfold allow; rw [if_neg h]
theorem allow_yes {r s : Int} (h : (0 ≤ r ∧ r ≤ 9999) ∧ (0 ≤ s ∧ s ≤ 9999)) : allow r s true = 9999 - s := by unfold allow; rw [if_pos h]; rfl
theorem allow_not {r s : Int} (h : (0 ≤ r ∧ r ≤ 9999) ∧ (0 ≤ s ∧ s ≤ 9999)) : allow r s false = min (max (3 * r - s) 0) (9999 - s) := by unfold allow; rw [if_pos h]; rfl
theorem allow_cases (r s : Int) (v : Bool) : (¬ ((0 ≤ r ∧ r ≤ 9999) ∧ (0 ≤ s ∧ s ≤ 9999)) ∧ allow r s v = 0) ∨
    (((0 ≤ r ∧ r ≤ 9999) ∧ (0 ≤ s ∧ s ≤ 9999)) ∧ ((v = true ∧ allow r s v = 9999 - s) ∨ (v = false ∧ allow r s v = min (max (3 * r - s) 0) (9999 - s)))) := by
  by_cases h : (0 ≤ r ∧ r ≤ 9999) ∧ (0 ≤ s ∧ s ≤ 9999)
  · cases v
    · exact .inr ⟨h, .inr ⟨rfl, allow_not h⟩⟩
    · exact .inr ⟨h, .inl ⟨rfl, allow_yes h⟩⟩
  · exact .inl ⟨h, allow_no h⟩
theorem allow_bd (r s : Int) (v : Bool) : 0 ≤ allow r s v ∧ allow r s v ≤ 9999 := by
  rcases allow_cases r s v with ⟨_, h⟩ | ⟨k, ⟨_, h⟩ | ⟨_, h⟩⟩ <;> omega

end Go.Proofs.YtbmlckhjjfipbaaDoor
