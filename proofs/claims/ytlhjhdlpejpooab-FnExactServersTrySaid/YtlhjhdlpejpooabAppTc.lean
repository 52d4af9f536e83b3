/- append on rows of tickets: the source a part of a row, or nil. -/
import Derived.Test.YtlhjhdlpejpooabTic
import Derived.Deep.RegionLaw
import Derived.Maps.AppendAt
import Derived.Laws.OwnMore
import Derived.Lib.BufferWrite
namespace Go.Proofs.Ytlhjhdlpejpooab
open Go.RowKit
set_option linter.unusedVariables false
set_option linter.unusedSimpArgs false

def CellsT (w : World) (g o : Nat) (m : List Tic) : Prop := ∀ q u, (tcells m)[q]? = some u → w.cell? ⟨g, o + q, none⟩ = some u
theorem CellsT.below {w w' : World} {g o : Nat} {m : List Tic} (h : CellsT w g o m) (hb : Below w.heap.size w w') : CellsT w' g o m := fun q u hu =>
  (hb.cell (World.block_lt_of_cell? w _ (h q u hu))).trans (h q u hu)
theorem tcells_app (l m : List Tic) : tcells (l ++ m) = tcells l ++ tcells m := by simp [tcells]
theorem CellsT.take {w : World} {g o : Nat} {m : List Tic} (h : CellsT w g o m) (k : Nat) : CellsT w g o (m.take k) := fun q u hu => by
  refine h q u ?_
  have e : tcells m = tcells (m.take k) ++ tcells (m.drop k) := by rw [← tcells_app, List.take_append_drop]
  rw [e, List.getElem?_append_left (List.getElem?_eq_some_iff.1 hu).1]; exact hu
theorem CellsT.drop {w : World} {g o : Nat} {m : List Tic} (h : CellsT w g o m) (k : Nat) (hk : k ≤ m.length) : CellsT w g (o + k * 2) (m.drop k) := fun q u hu => by
  have e : tcells m = tcells (m.take k) ++ tcells (m.drop k) := by rw [← tcells_app, List.take_append_drop]
  have hl : (tcells (m.take k)).length = k * 2 := by rw [tcells_len, List.length_take, Nat.min_eq_left hk]
  have := h (k * 2 + q) u (by rw [e, List.getElem?_append_right (by omega), hl, show k * 2 + q - k * 2 = q from by omega]; exact hu)
  rw [show o + k * 2 + q = o + (k * 2 + q) from by omega]; exact this
theorem Tics.cells {w : World} {g o c n : Nat} {l : List Tic} (h : Tics w (.slice (some ⟨g, o, none⟩) n c) l) : CellsT w g o l := fun q u hu => by
  obtain ⟨a, c', e, h⟩ := h
  have hq : q < l.length * 2 := by rw [← tcells_len]; exact (List.getElem?_eq_some_iff.1 hu).1
  obtain ⟨g', o', e2, hc⟩ := h (by rintro rfl; simp at hq)
  simp only [Value.slice.injEq] at e
  rw [← e.1] at e2
  simp only [Option.some.injEq, Addr.mk.injEq] at e2
  obtain ⟨rfl, rfl, _⟩ := e2
  obtain ⟨r1, r2⟩ := tcells_at l (q / 2) (by omega)
  obtain ⟨c1, c2⟩ := hc (q / 2) (by omega)
  rcases Nat.mod_two_eq_zero_or_one q with hm | hm
  · have hq2 : q = q / 2 * 2 := by omega
    rw [hq2, r1] at hu
    rw [hq2, ← Option.some.inj hu]; exact c1
  · have hq2 : q = q / 2 * 2 + 1 := by omega
    rw [hq2, r2] at hu
    rw [hq2, ← Option.some.inj hu, ← Nat.add_assoc]; exact c2
theorem tcells_one (l : List Tic) : ∀ u ∈ tcells l, u.oneCell' = true := by
  intro u hu
  obtain ⟨r, _, hr⟩ := List.mem_flatMap.1 hu
  simp at hr
  rcases hr with rfl | rfl <;> rfl

/-- What an append of a part of a row of tickets asks. -/
def SrcT (w : World) (v : Value) (m : List Tic) : Prop :=
  (v = .slice none 0 0 ∧ m = []) ∨ ∃ ad c, v = .slice (some ad) m.length c ∧ (m ≠ [] → ∃ g o, ad = ⟨g, o, none⟩ ∧ CellsT w g o m)
theorem SrcT.below {w w' : World} {v : Value} {m : List Tic} (h : SrcT w v m) (hb : Below w.heap.size w w') : SrcT w' v m := by
  rcases h with h | ⟨ad, c, rfl, h⟩
  · exact .inl h
  · exact .inr ⟨ad, c, rfl, fun hx => by obtain ⟨g, o, rfl, hc⟩ := h hx; exact ⟨g, o, rfl, hc.below hb⟩⟩
theorem SrcT.take {w : World} {g o c : Nat} {l : List Tic} (h : CellsT w g o l) (k : Nat) (hk : k ≤ l.length) : SrcT w (.slice (some ⟨g, o, none⟩) k c) (l.take k) :=
  .inr ⟨_, c, by rw [List.length_take, Nat.min_eq_left hk], fun _ => ⟨g, o, rfl, h.take k⟩⟩
theorem SrcT.drop {w : World} {g o c c2 n : Nat} {l : List Tic} (h : CellsT w g o l) (k : Nat) (hk : k ≤ l.length) (hc : l.length ≤ c) (hn : n = l.length - k) :
    SrcT w (.slice (if c = k then some ⟨g, o, none⟩ else some ⟨g, o + k * 2, none⟩) n c2) (l.drop k) := by
  subst hn
  by_cases h0 : k < l.length
  · rw [if_neg (by omega)]
    exact .inr ⟨_, c2, by rw [List.length_drop], fun _ => ⟨g, o + k * 2, rfl, h.drop k hk⟩⟩
  · have hn : l.drop k = [] := List.drop_eq_nil_iff.2 (by omega)
    rw [hn, show l.length - k = 0 from by omega]
    split
    · exact .inr ⟨_, c2, rfl, fun h => absurd rfl h⟩
    · exact .inr ⟨_, c2, rfl, fun h => absurd rfl h⟩
/-- A slice that came in, or that a call handed back: not half nil. -/
def NilOk (v : Value) : Prop := v.ownBlock ≠ none ∨ v = .slice none 0 0
theorem SrcT.of {w : World} {v : Value} {l : List Tic} (h : Tics w v l) (hn : NilOk v) : SrcT w v l := by
  obtain ⟨a, c, rfl, hh⟩ := h
  cases a with
  | none =>
    have e := hn.resolve_left (fun k => k rfl)
    simp only [Value.slice.injEq, true_and] at e
    obtain ⟨e1, rfl⟩ := e
    exact .inl ⟨by rw [e1], List.length_eq_zero_iff.1 e1⟩
  | some ad => exact .inr ⟨ad, c, rfl, fun hx => by
      obtain ⟨g, o, e, hc⟩ := hh hx
      injection e with e
      subst e
      exact ⟨g, o, rfl, Tics.cells (c := c) (n := l.length) ⟨_, c, rfl, fun _ => ⟨g, o, rfl, hc⟩⟩⟩⟩
theorem OwnTc.nilok {w : World} {B : Nat} {v : Value} {l : List Tic} (h : OwnTc w B v l) : NilOk v := by
  obtain ⟨h0, ⟨h1, _⟩ | ⟨g, c, cur, he, _⟩⟩ := h
  · exact .inr h1
  · left; rw [he]; simp [Value.ownBlock]

theorem append_tc (w : World) (ty : TypeId) (B : Nat) (v : Value) (l m : List Tic) (hown : OwnTc w B v l) (u : Value) (hm : SrcT w u m) (hlen : l.length + m.length ≤ 8388608) (hB : B ≤ w.heap.size) :
    ∃ v' w', (Builtin.append_ #[26, 26] ty #[v, u]).run Try.prog w = .ok v' w' ∧ OwnTc w' B v' (l ++ m) ∧ w.grownBy w' v.ownBlock ∧ (v'.ownBlock = v.ownBlock ∨ v'.ownBlock = some w.heap.size) ∧ (v' = .slice none 0 0 ↔ v = .slice none 0 0 ∧ m = []) := by
  obtain ⟨i0, hi, hz0, hz1, hz2⟩ := info_parts try_infoTicket
  rcases hm with ⟨rfl, rfl⟩ | ⟨ad, c, rfl, hm⟩
  · exact ⟨v, w, run_append_owned_none (P := Try.prog) (w := w) B 26 ty 38 i0 2 Try.underlying26 hi v l.length _ hown, by simpa using hown, World.grownBy.refl w _, .inl rfl, by simp⟩
  · have key : ∀ j u, (tcells m)[j]? = some u → w.cell? (ad.add j) = some u := by
      intro j u hu
      by_cases h0 : m = []
      · subst h0; simp [tcells] at hu
      · obtain ⟨g, oo, rfl, hc⟩ := hm h0
        rw [Addr.add_lit]
        exact hc j u hu
    obtain ⟨v', w', hr, h2, h3, h4, h5⟩ := run_append_own_at (P := Try.prog) w B 26 ty 38 i0 (.agg #[.int .i64 0, .int .i64 0]) 2 16 Try.underlying26 hi hz0 hz1 hz2 rfl (by decide) v l.length (tcells l) hown ad m.length c (tcells m) (tcells_len m) key (tcells_one m) (by unfold maxLen; omega) (by omega) hB
    exact ⟨v', w', hr, by unfold OwnTc; rw [List.length_append, tcells_app]; exact h2, h3, h5, by rw [h4, List.length_eq_zero_iff]⟩
theorem step_append_tc (w : World) {ops : Array Oper} {o : Oper} {a : Act} {K : Act → World → Prop} {Q : Exit → Act → World → Prop} {E : Prop} (hgd : o.guard = none) (s x : Operand)
    (ho : o.op = .call { callee := .builtin .append, args := #[s, x], argTypes := #[26, 26] })
    (B : Nat) (v : Value) (l m : List Tic) (hs : a.eval s = v) (hown : OwnTc w B v l) (u : Value) (hx : a.eval x = u) (hm : SrcT w u m) (hlen : l.length + m.length ≤ 8388608) (hB : B ≤ w.heap.size)
    (h : ∀ aa nn cc w', OwnTc w' B (.slice aa nn cc) (l ++ m) → Hid (nn = (l ++ m).length) → w.grownBy w' v.ownBlock → ((Value.slice aa nn cc).ownBlock = v.ownBlock ∨ (Value.slice aa nn cc).ownBlock = some w.heap.size) → (Value.slice aa nn cc = .slice none 0 0 ↔ v = .slice none 0 0 ∧ m = []) → K (a.put o.dst (.slice aa nn cc)) w') :
    if Region.wanted o (yielded ops a.tmps) = true then Oper.wp Try.prog o a w K Q else E := by
  have hw : Region.wanted o (yielded ops a.tmps) = true := by simp [Region.wanted, hgd]
  rw [if_pos hw]
  obtain ⟨v', w', hr, h1, h2, h3, h4⟩ := append_tc w o.type B v l m hown u hm hlen hB
  unfold Oper.wp execOp
  simp only [ho, resolve, invoke, builtin, Sem.run_bind, Sem.run_pure, Result.andThen_ok, List.map_toArray, List.map_cons, List.map_nil, hs, hx, hr]
  obtain ⟨aa, cc, rfl⟩ := ownsRow_shape h1
  exact h aa _ cc w' h1 rfl h2 h3 h4

end Go.Proofs.Ytlhjhdlpejpooab
