/- A slice of ints of the call's own: a list of ints at its end. -/
import Derived.Test.YtakfohcnclmkbaaOwnI
import Derived.Laws.OwnMore
namespace Go.Proofs.Ytakfohcnclmkbaa
open Go.RowKit
set_option linter.unusedVariables false
set_option linter.unusedSimpArgs false

theorem OwnI.notnil {w : World} {B : Nat} {xs : List Int} (h : OwnI w B (.slice none 0 0) xs) : xs = [] := by
  obtain ⟨h0, ⟨_, h1⟩ | ⟨g, c, cur, he, _⟩⟩ := h
  · exact List.length_eq_zero_iff.1 h1
  · simp at he

theorem OwnI.nn {w : World} {B : Nat} {v : Value} {xs : List Int} (h : OwnI w B v xs) : v.ownBlock ≠ none ∨ v = .slice none 0 0 := by
  obtain ⟨h0, ⟨h1, _⟩ | ⟨g, c, cur, he, _⟩⟩ := h
  · exact .inr h1
  · left; rw [he]; simp [Value.ownBlock]

theorem wpList_app_ints {ops : Array Oper} {rest : List Oper} {o : Oper} {a : Act} {Q : Exit → Act → World → Prop} (w : World) (hgd : o.guard = none) (s x : Operand)
    (ho : o.op = .call { callee := .builtin .append, args := #[s, x], argTypes := #[24, 24] }) (B : Nat) (v : Value) (xs : List Int) (hs : a.eval s = v) (hown : OwnI w B v xs)
    (u : Value) (ys : List Int) (hx : a.eval x = u) (hu : Ints w u ys) (hnn : u.ownBlock ≠ none ∨ u = .slice none 0 0) (hlen : xs.length < 1000000) (hlen2 : ys.length < 1000000) (hB : B ≤ w.heap.size)
    (h : ∀ v' w', OwnI w' B v' (xs ++ ys) → w.grownBy w' v.ownBlock → (v'.ownBlock = v.ownBlock ∨ v'.ownBlock = some w.heap.size) → wpList Try.prog ops Q rest (a.put o.dst v') w') :
    wpList Try.prog ops Q (o :: rest) a w := by
  obtain ⟨i0, hi, hz0, hz1, hz2⟩ := info_parts try_infoInt
  obtain ⟨ua, uc, rfl, hc⟩ := hu
  cases ua with
  | none =>
    have hnil : Value.slice none ys.length uc = .slice none 0 0 := hnn.resolve_left (fun h => h rfl)
    injection hnil with _ e1 e2
    have hys : ys = [] := List.length_eq_zero_iff.1 e1
    subst hys
    subst e2
    have hr := run_append_owned_none (P := Try.prog) (w := w) B 24 o.type 3 i0 1 Try.underlying24 hi v xs.length _ hown
    have hw : Region.wanted o (yielded ops a.tmps) = true := by simp [Region.wanted, hgd]
    refine wpList_step fun K hK => ?_
    rw [if_pos hw]
    unfold Oper.wp execOp
    simp only [List.length_nil] at hx
    simp only [ho, resolve, invoke, builtin, Sem.run_bind, Sem.run_pure, Result.andThen_ok, List.map_toArray, List.map_cons, List.map_nil, hs, hx, hr]
    exact hK _ _ (h v w (by simpa using hown) (World.grownBy.refl w _) (.inl rfl))
  | some ad =>
    refine wpList_append_own_at (w := w) hgd s x 24 ho B 3 i0 (.int .i64 0) 1 8 Try.underlying24 hi hz0 hz1 hz2 rfl (by decide) v xs.length _ hs hown ad ys.length uc (ys.map (Value.int .i64)) hx (by simp) ?_ ?_ ?_ ?_ hB ?_
    · intro j z hz
      obtain ⟨g, oo, e, hcc⟩ := hc (by rintro rfl; simp at hz)
      injection e with e
      subst e
      have hj : j < ys.length := by
        have := (List.getElem?_eq_some_iff.1 hz).1
        simpa using this
      rw [List.getElem?_map, List.getElem?_eq_getElem hj] at hz
      simp at hz
      subst hz
      have := hcc j hj
      rw [List.getD_eq_getElem?_getD, List.getElem?_eq_getElem hj] at this
      rw [Addr.add_lit]
      exact this
    · intro z hz
      obtain ⟨n, _, rfl⟩ := List.mem_map.1 hz
      rfl
    · unfold maxLen; omega
    · omega
    · intro v' w' h1 h2 h3 h4
      exact h v' w' (by unfold OwnI; simpa using h1) h2 h4

end Go.Proofs.Ytakfohcnclmkbaa
