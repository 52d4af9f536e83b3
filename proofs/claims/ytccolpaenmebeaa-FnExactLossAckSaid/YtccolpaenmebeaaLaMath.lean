/- Chapter 22 in plain lists: acknowledging, whatever comes in. -/
import Derived.Test.YtccolpaenmebeaaLsMath
import Derived.Test.YtccolpaenmebeaaPk
import Derived.Test.YtccolpaenmebeaaOwnI
import Derived.Test.YtccolpaenmebeaaRgMath
namespace Go.Proofs.Ytccolpaenmebeaa
open Go.RowKit
set_option linter.unusedVariables false
set_option linter.unusedSimpArgs false

theorem has_rhas : ∀ (r : List (Int × Int)) (n : Int), hasR r n = rhas r n
  | [], n => rfl
  | p :: t, n => by unfold hasR rhas; rw [List.any_cons, ← has_rhas t n]; rfl

/-- The last number of a set, or -1. -/
def lastN (r : List (Int × Int)) : Int := if r = [] then -1 else (r.getD (r.length - 1) (0, 0)).2
theorem lastR_nil : lastR [] = none := rfl
theorem lastR_ne {r : List (Int × Int)} (h : r ≠ []) : lastR r = some (r.getD (r.length - 1) (0, 0)).2 := by
  cases r with
  | nil => exact absurd rfl h
  | cons x t => rfl
theorem topR_lastN {g : Int} (r : List (Int × Int)) (h : -1 ≤ g) : topR g r = max g (lastN r) := by
  unfold topR lastN
  by_cases e : r = []
  · subst e; rw [if_pos rfl, lastR_nil]; show g = max g (-1); omega
  · rw [if_neg e, lastR_ne e]

/-- Acknowledging. -/
def lackok (s : Ls) (a : List (Int × Int)) (now delay : Int) : Prop := lok s ∧ rvalid a = true ∧ lastN a < s.1 ∧ (0 ≤ now ∧ now ≤ 999) ∧ (1 ≤ delay ∧ delay ≤ 1998)
instance (s : Ls) (a : List (Int × Int)) (now delay : Int) : Decidable (lackok s a now delay) := by unfold lackok; infer_instance
def lackv (s : Ls) (a : List (Int × Int)) (now delay : Int) : (Ls × List Int × List Int) × Bool := if lackok s a now delay then (lack s a now delay, true) else (((0, [], 0), [], []), false)
theorem lackv_no {s : Ls} {a : List (Int × Int)} {now delay : Int} (h : ¬ lackok s a now delay) : lackv s a now delay = (((0, [], 0), [], []), false) := by unfold lackv; rw [if_neg h]
theorem lackv_yes {s : Ls} {a : List (Int × Int)} {now delay : Int} (h : lackok s a now delay) : lackv s a now delay = (lack s a now delay, true) := by unfold lackv; rw [if_pos h]
theorem below_al (W : World) (o : Obj) : Below W.heap.size W (W.alloc o) := (Below.refl _ _).alloc (Nat.le_refl _) o
/-- No two of three slices share a block. -/
def Apart3 (v gv lv : Value) : Prop := ∀ q, (v.ownBlock = some q → gv.ownBlock ≠ some q ∧ lv.ownBlock ≠ some q) ∧ (gv.ownBlock = some q → lv.ownBlock ≠ some q)
/-- What an acknowledgement hands back. -/
def AckV (w : World) (r : (Ls × List Int × List Int) × Bool) (e : Ending) (w' : World) : Prop :=
  ∃ v gv lv, e = .returned (.tuple #[.agg #[.int .i64 r.1.1.1, v, .int .i64 r.1.1.2.2], gv, lv, .bool r.2]) ∧ OwnPk w' w.heap.size v r.1.1.2.1 ∧ OwnI w' w.heap.size gv r.1.2.1 ∧ OwnI w' w.heap.size lv r.1.2.2 ∧ Below w.heap.size w w' ∧ Apart3 v gv lv
theorem OwnI.nil (w : World) (B : Nat) : OwnI w B (.slice none 0 0) [] := ⟨rfl, .inl ⟨rfl, rfl⟩⟩
theorem AckV.no (w w' : World) (hb : Below w.heap.size w w') : AckV w (((0, [], 0), [], []), false) (.returned (.tuple #[.agg #[.int .i64 0, .slice none 0 0, .int .i64 0], .slice none 0 0, .slice none 0 0, .bool false])) w' :=
  ⟨_, _, _, rfl, OwnPk.nil _ _, OwnI.nil _ _, OwnI.nil _ _, hb, fun q => ⟨fun e => by simp [Value.ownBlock] at e, fun e => by simp [Value.ownBlock] at e⟩⟩
theorem results_cttt {fn : Func} {p t u x : Tmp} {ty : TypeId} (h : fn.results = #[.cell p ty, .tmp t, .tmp u, .tmp x]) (tmps : Array Value) (P : Program) (w : World) :
    (results fn tmps).run P w = ((asAddr (tmps.getD p undef)).run P w).andThen fun a w₁ => ((loadVar ty a).run P w₁).andThen fun v w₂ => .ok (.tuple #[v, tmps.getD t undef, tmps.getD u undef, tmps.getD x undef]) w₂ := by
  simp only [results, h]
  simp [Sem.run_bind, Result.andThen]
/-- The program cuts twice: first what is acknowledged, then what is lost. -/
theorem lack_twice (s : Ls) (r : List (Int × Int)) (now delay : Int) : lack s r now delay = ((s.1, (s.2.1.filter fun p => !hasR r p.1).filter (fun p => !isLost (topR s.2.2 r) now delay p), topR s.2.2 r), (s.2.1.filter fun p => hasR r p.1).map (·.1), ((s.2.1.filter fun p => !hasR r p.1).filter fun p => isLost (topR s.2.2 r) now delay p).map (·.1)) := by
  unfold lack gotL lostL keptL
  rw [List.filter_filter, List.filter_filter]
  have e1 : (fun a : Pk => !isLost (topR s.2.2 r) now delay a && !hasR r a.1) = fun p => !hasR r p.1 && !isLost (topR s.2.2 r) now delay p := by funext p; rw [Bool.and_comm]
  have e2 : (fun a : Pk => isLost (topR s.2.2 r) now delay a && !hasR r a.1) = fun p => !hasR r p.1 && isLost (topR s.2.2 r) now delay p := by funext p; rw [Bool.and_comm]
  rw [e1, e2]

end Go.Proofs.Ytccolpaenmebeaa
