/- Chapter 31's draws: a piece is moved, a piece is appended. -/
import Derived.Test.YtdhdomnhgcejhaaQvF
import Derived.Deep.RegionLaw
import Derived.Deep.AppendLies
import Derived.Maps.AppendAt
namespace Go.Proofs.Ytdhdomnhgcejhaa
open Go.RowKit
set_option linter.unusedVariables false
set_option linter.unusedSimpArgs false

theorem pcells_put : ∀ (l : List Pc) (p : Nat) (x : Int), p < l.length → (pcells l).set (p * 2) (.int .i64 x) = pcells (l.set p (x, (l.getD p pc0).2))
  | [], p, x, h => by simp at h
  | (a, d) :: t, 0, x, _ => by simp [pcells]
  | (a, d) :: t, p + 1, x, h => by
    have ih := pcells_put t p x (by simpa using h)
    have e : pcells ((a, d) :: t) = .int .i64 a :: .string d :: pcells t := by simp [pcells]
    rw [e, show (p + 1) * 2 = p * 2 + 1 + 1 by omega, List.set_cons_succ, List.set_cons_succ, ih]
    simp [pcells, List.set_cons_succ]
section
variable {w W W' : World} {b k bx g c : Nat} {rd fi li : Int} {l : List Pc}
theorem St.cellp (h : St w W b k bx g c rd fi li l) (p : Nat) (hp : p < l.length) : W.cell? ⟨g, p * 2, none⟩ = some (.int .i64 (l.getD p pc0).1) ∧ W.frozen? ⟨g, p * 2, none⟩ = false :=
  ⟨(World.ownsRow.cellAt h.own (p * 2) (by omega)).trans (pcells_at l p hp).1, World.ownsRow.frozenAt h.own _⟩
theorem St.piece (h : St w W b k bx g c rd fi li l) (p : Nat) (hp : p < l.length) (x : Int) : ∃ l', St w (W.setCell ⟨g, p * 2, none⟩ (.int .i64 x)) b k bx g c rd fi li l' ∧ l'.length = l.length ∧ ((∀ q ∈ l, -1 ≤ q.1 ∧ q.1 ≤ 32 ∧ q.2.size ≤ 30) → (-1 ≤ x ∧ x ≤ 32) → ∀ q ∈ l', -1 ≤ q.1 ∧ q.1 ≤ 32 ∧ q.2.size ≤ 30) := by
  have hlen : (l.set p (x, (l.getD p pc0).2)).length = l.length := List.length_set ..
  have hst := (World.ownsRow.stored h.own (p * 2) (.int .i64 x)).1
  rw [pcells_put l p x hp] at hst
  have hlt := h.own.lt
  refine ⟨l.set p (x, (l.getD p pc0).2), ?_, hlen, ?_⟩
  · exact {
      grown := grown_two h.grown (grown_cell W g _ _) fun r e => .inl (by injection e with e; omega)
      rdr := h.rdr.grown (grown_cell W g _ _) fun r e => by injection e with e; have := h.blt; omega
      frm := by rw [hlen]; exact h.frm.far h.ne _
      thaw := h.thaw.set _ _
      own := by unfold OwnPc; rw [hlen]; exact hst
      zfrm := h.zfrm.far (by omega) _
      zthaw := h.zthaw.set _ _
      lo := h.lo
      hi := by simpa using h.hi
      ne := h.ne
      blt := h.blt }
  · intro hq hx q hm
    rcases List.mem_or_eq_of_mem_set hm with hm | rfl
    · exact hq q hm
    · refine ⟨hx.1, hx.2, ?_⟩
      have := hq (l.getD p pc0) (by rw [List.getD_eq_getElem?_getD, List.getElem?_eq_getElem hp]; exact List.getElem_mem hp)
      exact this.2.2
/-- x.Pieces has grown by a piece (in place, or in a new row), and is stored. -/
theorem st_append {g' c' : Nat} {a : Int} {d : ByteArray} (h : St w W b k bx g c rd fi li l) (hg : W.grownBy W' (some g)) (O : OwnPc W' (w.heap.size + 1) (.slice (some ⟨g', 0, none⟩) (l ++ [(a, d)]).length c') (l ++ [(a, d)])) (hn : g' ≠ bx) :
    St w (W'.setCell ⟨bx, 1, none⟩ (.slice (some ⟨g', 0, none⟩) (l ++ [(a, d)]).length c')) b k bx g' c' rd fi li (l ++ [(a, d)]) := by
  have hlt := h.own.lt
  have hne := h.ne
  have hlo := h.lo
  have f1 := h.frm.kept hg h.hi (fun e => by injection e with e; omega)
  have t1 := h.thaw.kept hg h.hi (fun e => by injection e with e; omega)
  have z1 := h.zfrm.kept hg (Nat.lt_trans h.lo h.hi) (fun e => by injection e with e; omega)
  have zt1 := h.zthaw.kept hg (Nat.lt_trans h.lo h.hi) (fun e => by injection e with e; omega)
  have r1 := h.rdr.grown hg (fun r e => by injection e with e; have := h.blt; omega)
  have g1 := grown_two h.grown hg (fun r e => .inl (by injection e with e; omega))
  exact {
    grown := grown_two g1 (grown_cell W' bx _ _) fun r e => .inl (by injection e with e; omega)
    rdr := r1.grown (grown_cell W' bx _ _) fun r e => by injection e with e; have := h.blt; omega
    frm := f1.set (i := 1) (by simp) _
    thaw := t1.set _ _
    own := own_far O (fun x hx => by have hx' : g' = x := Option.some.inj hx; omega)
    zfrm := z1.far (by omega) _
    zthaw := zt1.set _ _
    lo := h.lo
    hi := by have := hg.size; have := h.hi; simp; omega
    ne := hn
    blt := h.blt }
end
theorem step_append_pc (w : World) {ops : Array Oper} {o : Oper} {a : Act} {K : Act → World → Prop} {Q : Exit → Act → World → Prop} {E : Prop} (hgd : o.guard = none) (s x : Operand)
    (ho : o.op = .call { callee := .builtin .append, args := #[s, x], argTypes := #[28, 28] })
    (B : Nat) (g c : Nat) (l : List Pc) (hs : a.eval s = .slice (some ⟨g, 0, none⟩) l.length c) (hown : OwnPc w B (.slice (some ⟨g, 0, none⟩) l.length c) l) (p : Int) (d : ByteArray) (q cc : Nat) (hx : a.eval x = .slice (some ⟨q, 0, none⟩) 1 cc)
    (hm : w.cell? ⟨q, 0, none⟩ = some (.int .i64 p) ∧ w.cell? ⟨q, 1, none⟩ = some (.string d)) (hlen : l.length ≤ 1000) (hB : B ≤ w.heap.size)
    (h : ∀ g' c' nn w', Hid (nn = (l ++ [(p, d)]).length) → OwnPc w' B (.slice (some ⟨g', 0, none⟩) (l ++ [(p, d)]).length c') (l ++ [(p, d)]) → w.grownBy w' (some g) → (g' = g ∨ g' = w.heap.size) → K (a.put o.dst (.slice (some ⟨g', 0, none⟩) nn c')) w') :
    if Region.wanted o (yielded ops a.tmps) = true then Oper.wp Try.prog o a w K Q else E := by
  have hw : Region.wanted o (yielded ops a.tmps) = true := by simp [Region.wanted, hgd]
  rw [if_pos hw]
  obtain ⟨i0, hi, hz0, hz1, hz2⟩ := info_parts try_infoPiece
  have key : ∀ j u, [Value.int .i64 p, .string d][j]? = some u → w.cell? ((⟨q, 0, none⟩ : Addr).add j) = some u := by
    intro j u hu
    rw [Addr.add_lit, Nat.zero_add]
    rcases j with _ | _ | j
    · have : u = .int .i64 p := by simpa using hu.symm
      rw [this]; exact hm.1
    · have : u = .string d := by simpa using hu.symm
      rw [this]; exact hm.2
    · simp at hu
  obtain ⟨v', w', hr, h2, h3, h4, h5⟩ := run_append_own_at (P := Try.prog) w B 28 o.type 67 i0 (.agg #[.int .i64 0, .string ⟨#[]⟩]) 2 24 Try.underlying28 hi hz0 hz1 hz2 rfl (by decide) (.slice (some ⟨g, 0, none⟩) l.length c) l.length (pcells l) hown ⟨q, 0, none⟩ 1 cc [.int .i64 p, .string d] (by simp) key (onep p d) (by unfold maxLen; omega) (by omega) hB
  unfold Oper.wp execOp
  simp only [ho, resolve, invoke, builtin, Sem.run_bind, Sem.run_pure, Result.andThen_ok, List.map_toArray, List.map_cons, List.map_nil, hs, hx, hr]
  have hO : OwnPc w' B v' (l ++ [(p, d)]) := ownpc_snoc h2
  have hv : v' ≠ .slice none 0 0 := fun e => by have := (h4.1 e).1; simp at this
  obtain ⟨g', c', rfl, _, _, _⟩ := hO.sl hv
  refine h g' c' _ w' rfl hO h3 ?_
  rcases h5 with h5 | h5
  · exact .inl (Option.some.inj h5)
  · exact .inr (Option.some.inj h5)

end Go.Proofs.Ytdhdomnhgcejhaa
