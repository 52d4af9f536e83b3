/- The heap's Push and Pop, container/heap's Push and Pop over it. -/
import Derived.Test.YtlhjhdlpejpooabHpDn
import Derived.Test.YtlhjhdlpejpooabAppTc
namespace Go.Proofs.Ytlhjhdlpejpooab
open Go.RowKit
set_option linter.unusedVariables false
set_option linter.unusedSimpArgs false

theorem append_te (w : World) (ty : TypeId) (B : Nat) (v : Value) (l m : List Tic) (hown : OwnTc w B v l) (ad : Addr) (g o c : Nat) (had : ad = ⟨g, o, none⟩) (hc : CellsT w g o m) (hlen : l.length + m.length ≤ 8388608) (hB : B ≤ w.heap.size) :
    ∃ v' w', (Builtin.append_ #[71, 71] ty #[v, .slice (some ad) m.length c]).run Try.prog w = .ok v' w' ∧ OwnTc w' B v' (l ++ m) ∧ w.grownBy w' v.ownBlock ∧ (v'.ownBlock = v.ownBlock ∨ v'.ownBlock = some w.heap.size) ∧ (v' = .slice none 0 0 ↔ v = .slice none 0 0 ∧ m = []) := by
  obtain ⟨i0, hi, hz0, hz1, hz2⟩ := info_parts try_infoTicket
  subst had
  have key : ∀ j u, (tcells m)[j]? = some u → w.cell? ((⟨g, o, none⟩ : Addr).add j) = some u := by
    intro j u hu
    rw [Addr.add_lit]
    exact hc j u hu
  obtain ⟨v', w', hr, h2, h3, h4, h5⟩ := run_append_own_at (P := Try.prog) w B 71 ty 38 i0 (.agg #[.int .i64 0, .int .i64 0]) 2 16 Try.underlying71 hi hz0 hz1 hz2 rfl (by decide) v l.length (tcells l) hown ⟨g, o, none⟩ m.length c (tcells m) (tcells_len m) key (tcells_one m) (by unfold maxLen; omega) (by omega) hB
  exact ⟨v', w', hr, by unfold OwnTc; rw [List.length_append, tcells_app]; exact h2, h3, h5, by rw [h4, List.length_eq_zero_iff]⟩
theorem step_append_te (w : World) {ops : Array Oper} {o : Oper} {a : Act} {K : Act → World → Prop} {Q : Exit → Act → World → Prop} {E : Prop} (hgd : o.guard = none) (s x : Operand)
    (ho : o.op = .call { callee := .builtin .append, args := #[s, x], argTypes := #[71, 71] })
    (B : Nat) (v : Value) (l : List Tic) (p q : Int) (hs : a.eval s = v) (hown : OwnTc w B v l) (g : Nat) (hx : a.eval x = .slice (some ⟨g, 0, none⟩) 1 1) (hm : CellsT w g 0 [(p, q)]) (hlen : l.length + 1 ≤ 8388608) (hB : B ≤ w.heap.size)
    (h : ∀ aa nn cc w', OwnTc w' B (.slice aa nn cc) (l ++ [(p, q)]) → Hid (nn = (l ++ [(p, q)]).length) → w.grownBy w' v.ownBlock → ((Value.slice aa nn cc).ownBlock = v.ownBlock ∨ (Value.slice aa nn cc).ownBlock = some w.heap.size) → K (a.put o.dst (.slice aa nn cc)) w') :
    if Region.wanted o (yielded ops a.tmps) = true then Oper.wp Try.prog o a w K Q else E := by
  have hw : Region.wanted o (yielded ops a.tmps) = true := by simp [Region.wanted, hgd]
  rw [if_pos hw]
  obtain ⟨v', w', hr, h1, h2, h3, h4⟩ := append_te w o.type B v l [(p, q)] hown ⟨g, 0, none⟩ g 0 1 rfl hm hlen hB
  unfold Oper.wp execOp
  simp only [List.length_singleton] at hr
  simp only [ho, resolve, invoke, builtin, Sem.run_bind, Sem.run_pure, Result.andThen_ok, List.map_toArray, List.map_cons, List.map_nil, hs, hx, hr]
  obtain ⟨aa, cc, rfl⟩ := ownsRow_shape h1
  exact h aa _ cc w' h1 rfl h2 h3
theorem new_cells3 (w : World) (x y : Int) (T : TypeId) : CellsT (w.alloc (.cells #[.int .i64 x, .int .i64 y] T)) w.heap.size 0 [(x, y)] := fun q u hu => by
  have hq : q < 2 := by have := (List.getElem?_eq_some_iff.1 hu).1; rw [tcells_len] at this; simpa using this
  rw [Nat.zero_add, World.cell?_alloc_mark, ← hu]
  match q, hq with
  | 0, _ => rfl
  | 1, _ => rfl

def Pushed (B : Nat) (W : World) (b : Nat) (l : List Tic) (e : Ending) (w' : World) : Prop :=
  e = .returned (.tuple #[]) ∧ Below B W w' ∧ ∃ g c, Hs B w' b (.slice (some ⟨g, 0, none⟩) l.length c) l
theorem pushed_end {B : Nat} {W W1 w8 : World} {b g c nn cc : Nat} {aa : Option Addr} {l m : List Tic} (H1 : Hs B W1 b (.slice (some ⟨g, 0, none⟩) l.length c) l) (hb : Below B W W1) (hg8 : W1.grownBy w8 (some g))
    (hO8 : OwnTc w8 B (.slice aa nn cc) m) (hnn : nn = m.length) (hgg8 : (Value.slice aa nn cc).ownBlock = some g ∨ (Value.slice aa nn cc).ownBlock = some W1.heap.size) :
    Pushed B W b m (.returned (.tuple #[])) (w8.setCell ⟨b, 0, none⟩ (.slice aa nn cc)) := by
  subst hnn
  have hgB := (World.ownsRow.lt H1.own g rfl).1
  have hgb : g ≠ b := fun e => H1.ne (by rw [← e]; rfl)
  have hlt := H1.lt
  have hBs : B ≤ W1.heap.size := by have := H1.bb; omega
  obtain ⟨g8, rfl⟩ : ∃ g8, aa = some ⟨g8, 0, none⟩ := by
    obtain ⟨h0, ⟨h1, _⟩ | ⟨g, c, cur, he, _⟩⟩ := hO8
    · rw [h1] at hgg8; simp [Value.ownBlock] at hgg8
    · exact ⟨g, by injection he⟩
  have h8 : g8 = g ∨ g8 = W1.heap.size := hgg8.imp (fun e => Option.some.inj e) (fun e => Option.some.inj e)
  have h8b : g8 ≠ b := by omega
  have k0 := hg8.cell H1.cell (fun e => H1.ne e.symm)
  have kf := (hg8.frozen_far ⟨b, 0, none⟩ hlt (fun e => H1.ne e.symm)).trans H1.soft
  refine ⟨rfl, (hb.grown hg8 hBs (fun j hj => by injection hj with hj; omega)).setCell H1.bb _, g8, cc, H1.bb, World.cell?_setCell_same _ _ _ k0, by rw [World.frozen?_setCell]; exact kf, World.ownsRow.kept hO8 (Lib.grownBy_setCell w8 b 0 _) (.inr fun e => h8b (Option.some.inj e)), fun e => h8b (Option.some.inj e)⟩
set_option maxRecDepth 100000 in
set_option maxHeartbeats 4000000 in
theorem push_any (b g c : Nat) (l : List Tic) (x y : Int) (B : Nat) (W : World) (h : Hs B W b (.slice (some ⟨g, 0, none⟩) l.length c) l) (hl : l.length ≤ 1048576) (hB : B ≤ W.heap.size) :
    Calls Try.prog 123 #[.pointer (some ⟨b, 0, none⟩), .iface 38 (.agg #[.int .i64 x, .int .i64 y])] W (Pushed B W b (l ++ [(x, y)])) := by
  have e0 := h.cell
  have f0 := h.soft
  have HH := Lib.hid h
  clear h
  have B1 : Hid (Below W.heap.size W (W.alloc (.cells #[.int .i64 x, .int .i64 y] 38)).drew) := Lib.hid ((Below.refl _ _).alloc (Nat.le_refl _) _).drew
  have H1 := Lib.hid (HH.out.below B1.out)
  have CC : Hid (CellsT (W.alloc (.cells #[.int .i64 x, .int .i64 y] 38)).drew W.heap.size 0 [(x, y)]) := Lib.hid ((new_cells3 W x y _).below (Below.refl _ _).drew)
  have hsz : Hid (W.heap.size ≤ (W.alloc (.cells #[.int .i64 x, .int .i64 y] 38)).drew.heap.size) := Lib.hid B1.out.size
  have a0 := H1.out.cell
  have ta := fun (W : World) (v : Value) => (show Sem.run Try.prog (Instr.typeAssert (.iface 38 v) 20 38 false) W = .ok v W by rfl)
  go_enter Try.func123, Try.ntmps123
  go_region_law ((refine step_append_te _ (by rfl) _ _ (by rfl) B _ l x y (by rfl) H1.out.own _ (by rfl) CC.out (by omega) (by have := hsz.out; omega) ?_; intro aa nn cc w8 hO8 hnn hg8 hgg8; have k0 := hg8.cell H1.out.cell (fun e => H1.out.ne e.symm); have kf := (hg8.frozen_far ⟨b, 0, none⟩ H1.out.lt (fun e => H1.out.ne e.symm)).trans H1.out.soft))
  all_goals
    have HE := Lib.hid (pushed_end (W := W) H1.out ((Below.refl B W).alloc hB _).drew hg8 hO8 hnn.out hgg8)
    clear hO8 hg8 hgg8 k0 kf hnn
    go_end0
    exact HE.out

/-- The top is taken off. -/
def Popped (B : Nat) (W : World) (b : Nat) (l : List Tic) (e : Ending) (w' : World) : Prop :=
  (∃ v, e = .returned v) ∧ Below B W w' ∧ ∃ (l' : List Tic) (g c : Nat), l.Perm (l.getD 0 (0, 0) :: l') ∧ hok l' l'.length ∧ Hs B w' b (.slice (some ⟨g, 0, none⟩) l'.length c) l'
def AnyV (e : Ending) : Prop := ∃ v, e = .returned v
set_option maxRecDepth 100000 in
set_option maxHeartbeats 4000000 in
theorem pop_any (b g c m : Nat) (l : List Tic) (B : Nat) (W : World) (h : Hs B W b (.slice (some ⟨g, 0, none⟩) (m + 1) c) l) (hm : l.length = m + 1) (hl : l.length ≤ 1048576) (hB : B ≤ W.heap.size) :
    Calls Try.prog 122 #[.pointer (some ⟨b, 0, none⟩)] W fun e w' => AnyV e ∧ Below B W w' ∧ Hs B w' b (.slice (some ⟨g, 0, none⟩) m c) (l.take m) := by
  have e0 := h.cell
  have f0 := h.soft
  obtain ⟨c0, c1⟩ := kl_cell h.own hm.symm m (by omega)
  have hcap : m + 1 ≤ c := by
    obtain ⟨h0, ⟨h1, _⟩ | ⟨g, c, cur, he, _, _, hc, _⟩⟩ := h.own
    · injection h1 with h1; cases h1
    · injection he with h1 h2 h3; omega
  have hmc : (m : Int) ≤ (c : Int) := by omega
  have hw : IntKind.i64.wrap (((m + 1 : Nat) : Int) - 1) = (m : Int) := by rw [IntWalk.i64_in _ (by omega)]; omega
  have hw' : IntKind.i64.wrap ((m : Int) + 1 - 1) = (m : Int) := by rw [IntWalk.i64_in _ (by omega)]; omega
  have hw4 : IntKind.i64.wrap (m : Int) = (m : Int) := IntWalk.i64_in _ (by omega)
  have hw3 : wrap64 (m : Int) = (m : Int) := by unfold wrap64; omega
  have hlt : (m : Int) < ((m + 1 : Nat) : Int) := by omega
  have hlt2 : (m : Int) < (m : Int) + 1 := by omega
  have HH := Lib.hid h
  have HM := Lib.hid hm
  clear h hm
  generalize kl l m = y at c1
  generalize (l.getD m (0, 0)).1 = x at c0
  have UB : Below W.heap.size W (W.alloc (.cells #[.int .i64 x, .int .i64 y] 38)) := (Below.refl _ _).alloc (Nat.le_refl _) _
  have HA := Lib.hid (HH.out.below UB)
  have a0 := HA.out.cell
  have a1 := HA.out.soft
  have hbW : b ≠ W.heap.size := by have := HH.out.lt; omega
  have r0 : ((W.alloc (.cells #[.int .i64 x, .int .i64 y] 38)).setCell ⟨b, 0, none⟩ (.slice (some ⟨g, 0, none⟩) m c)).cell? ⟨W.heap.size, 0, none⟩ = some (.int .i64 x) := by
    rw [World.cell?_setCell_other _ _ _ _ (fun e => hbW (by injection e)), World.cell?_alloc_mark]; rfl
  have r1 : ((W.alloc (.cells #[.int .i64 x, .int .i64 y] 38)).setCell ⟨b, 0, none⟩ (.slice (some ⟨g, 0, none⟩) m c)).cell? ⟨W.heap.size, 1, none⟩ = some (.int .i64 y) := by
    rw [World.cell?_setCell_other _ _ _ _ (fun e => hbW (by injection e)), World.cell?_alloc_mark]; rfl
  have hgb : g ≠ b := fun e => HH.out.ne (by rw [← e]; rfl)
  have HE : Hid (Hs B ((W.alloc (.cells #[.int .i64 x, .int .i64 y] 38)).setCell ⟨b, 0, none⟩ (.slice (some ⟨g, 0, none⟩) m c)) b (.slice (some ⟨g, 0, none⟩) m c) (l.take m)) :=
    Lib.hid ⟨HH.out.bb, World.cell?_setCell_same _ _ _ a0, by rw [World.frozen?_setCell]; exact a1, World.ownsRow.kept (OwnTc.cut HA.out.own (by simp) (by have := HM.out; omega)) (Lib.grownBy_setCell _ b 0 _) (.inr fun e => hgb (Option.some.inj e)), fun e => hgb (Option.some.inj e)⟩
  have BE : Hid (Below B W ((W.alloc (.cells #[.int .i64 x, .int .i64 y] 38)).setCell ⟨b, 0, none⟩ (.slice (some ⟨g, 0, none⟩) m c))) := Lib.hid (((Below.refl B W).alloc hB _).setCell HH.out.bb _)
  clear UB hbW hgb hcap
  go_enter Try.func122, Try.ntmps122
  go_wp2_with fail
  generalize ((W.alloc (.cells #[.int .i64 x, .int .i64 y] 38)).setCell ⟨b, 0, none⟩ (.slice (some ⟨g, 0, none⟩) m c)) = WF at r0 r1 HE BE ⊢
  go_ret
  exact ⟨⟨_, rfl⟩, BE.out, HE.out⟩

end Go.Proofs.Ytlhjhdlpejpooab
