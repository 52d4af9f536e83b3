/- The library's slices.Grow (at nil) and slices.Concat of two slices of ranges. -/
import Derived.Test.YtcjhbcibhcogjaaSAdd
import Derived.Lib.AppendZeros
namespace Go.Proofs.Ytcjhbcibhcogjaa
open Go.RowKit
set_option linter.unusedVariables false
set_option linter.unusedSimpArgs false

theorem run_append_none_c {P : Program} {w : World} (base : Nat) (t ty e : TypeId) (i : TypeInfo) (size c : Nat) (ht : P.underlying t = some (.slice e)) (hi : P.info? e = some i)
    (v : Value) (n : Nat) (xs : List Value) (hown : w.ownsRow base e size v n xs) :
    (Builtin.append_ #[t, t] ty #[v, .slice none 0 c]).run P w = .ok v w := by
  rcases hown.2 with ⟨rfl, rfl⟩ | ⟨g, cap, cur, rfl, _, _, hnc, _⟩
  · simp [Builtin.append_, run_underlying ht, sizeOf, typeInfo, hi, Builtin.lenOf, Builtin.firstCells]
  · simp [Builtin.append_, run_underlying ht, sizeOf, typeInfo, hi, Builtin.lenOf, Builtin.firstCells, hnc, storeCells]
theorem wpList_append_none_c {P : Program} {w : World} {ops : Array Oper} {rest : List Oper} {o : Oper} {a : Act} {Q : Exit → Act → World → Prop} (hgd : o.guard = none) (s x : Operand) (t : TypeId)
    (ho : o.op = .call { callee := .builtin .append, args := #[s, x], argTypes := #[t, t] })
    (base : Nat) (e : TypeId) (i : TypeInfo) (size c : Nat) (ht : P.underlying t = some (.slice e)) (hi : P.info? e = some i)
    (v : Value) (n : Nat) (xs : List Value) (hs : a.eval s = v) (hown : w.ownsRow base e size v n xs) (hx : a.eval x = .slice none 0 c)
    (h : wpList P ops Q rest (a.put o.dst v) w) : wpList P ops Q (o :: rest) a w := by
  refine wpList_plain hgd fun K hK => ?_
  have hrun := run_append_none_c (P := P) (w := w) base t o.type e i size c ht hi v n xs hown
  unfold Oper.wp
  simp [execOp, ho, resolve, invoke, builtin, hs, hx, hrun, Result.andThen]
  exact hK _ _ h
theorem one_rcells (l : List (Int × Int)) : ∀ u ∈ rcells l, u.oneCell' = true := by
  intro u hu
  simp only [rcells, List.mem_flatMap] at hu
  obtain ⟨r, _, hu⟩ := hu
  simp at hu
  rcases hu with rfl | rfl <;> rfl
theorem rcells_app (l m : List (Int × Int)) : rcells (l ++ m) = rcells l ++ rcells m := by simp [rcells]
theorem rngs_cells {w : World} {g o : Nat} {l : List (Int × Int)} (h : ∀ i, i < l.length → w.cell? ⟨g, o + i * 2, none⟩ = some (.int .i64 (l.getD i (0, 0)).1) ∧ w.cell? ⟨g, o + i * 2 + 1, none⟩ = some (.int .i64 (l.getD i (0, 0)).2)) :
    ∀ j u, (rcells l)[j]? = some u → w.cell? ((⟨g, o, none⟩ : Addr).add j) = some u := by
  intro j u hu
  have hj : j < l.length * 2 := by have := (List.getElem?_eq_some_iff.1 hu).1; rwa [rcells_len] at this
  obtain ⟨r1, r2⟩ := rcells_at l (j / 2) (by omega)
  obtain ⟨c1, c2⟩ := h (j / 2) (by omega)
  rw [show ((⟨g, o, none⟩ : Addr).add j) = ⟨g, o + j, none⟩ by simp [Addr.add]]
  have hm : j % 2 = 0 ∨ j % 2 = 1 := by omega
  rcases hm with hm | hm
  · rw [show j / 2 * 2 = j by omega] at r1
    rw [hu] at r1
    rw [show o + j / 2 * 2 = o + j by omega] at c1
    rw [r1]; exact c1
  · rw [show j / 2 * 2 + 1 = j by omega] at r2
    rw [hu] at r2
    rw [show o + j / 2 * 2 + 1 = o + j by omega] at c2
    rw [r2]; exact c2
/-- append(own, a slice that reads as m...). -/
theorem wpList_append_rngs {w : World} {ops : Array Oper} {rest : List Oper} {o : Oper} {a : Act} {Q : Exit → Act → World → Prop} (hgd : o.guard = none) (s x : Operand)
    (ho : o.op = .call { callee := .builtin .append, args := #[s, x], argTypes := #[23, 23] })
    (B : Nat) (v u : Value) (l m : List (Int × Int)) (hs : a.eval s = v) (hown : OwnRg w B v l) (hx : a.eval x = u) (hm : Rngs w u m) (hlen : l.length + m.length ≤ 8388608) (hB : B ≤ w.heap.size)
    (h : ∀ v' w', OwnRg w' B v' (l ++ m) → w.grownBy w' v.ownBlock → (v ≠ .slice none 0 0 → v' ≠ .slice none 0 0) → wpList Try.prog ops Q rest (a.put o.dst v') w') : wpList Try.prog ops Q (o :: rest) a w := by
  obtain ⟨i0, hi, hz0, hz1, hz2⟩ := info_parts try_infoRange
  obtain ⟨ad, c, rfl, hm⟩ := hm
  cases ad with
  | none =>
    have h0 : m = [] := by
      cases m with
      | nil => rfl
      | cons r t => obtain ⟨g, o, hh, _⟩ := hm (by simp); cases hh
    subst h0
    refine wpList_append_none_c hgd s x 23 ho B 40 i0 2 c Try.underlying23 hi v l.length (rcells l) hs hown hx ?_
    exact h v w (by rw [List.append_nil]; exact hown) (World.grownBy.refl _ _) (fun z => z)
  | some ad =>
    by_cases h0 : m = []
    · subst h0
      refine wpList_append_own (w := w) hgd s x 23 ho B 40 i0 (.agg #[.int .i64 0, .int .i64 0]) 2 16 Try.underlying23 hi hz0 hz1 hz2 rfl (by decide) v l.length (rcells l) hs hown ad 0 c [] hx rfl (by simp) (by simp) (by unfold maxLen; omega) (by omega) hB ?_
      intro v' w' h1 h2 h3
      exact h v' w' (by rw [List.append_nil]; simpa [OwnRg] using h1) h2 (fun hn e => hn (h3.1 e).1)
    · obtain ⟨g, o2, hh, hc⟩ := hm h0
      injection hh with hh
      subst hh
      refine wpList_append_own (w := w) hgd s x 23 ho B 40 i0 (.agg #[.int .i64 0, .int .i64 0]) 2 16 Try.underlying23 hi hz0 hz1 hz2 rfl (by decide) v l.length (rcells l) hs hown ⟨g, o2, none⟩ m.length c (rcells m) hx (rcells_len m) (rngs_cells hc) (one_rcells m) (by unfold maxLen; omega) (by omega) hB ?_
      intro v' w' h1 h2 h3
      exact h v' w' (by unfold OwnRg; rw [List.length_append, rcells_app]; exact h1) h2 (fun hn e => hn (h3.1 e).1)

def MadePost (w : World) (l : List (Int × Int)) (e : Ending) (w' : World) : Prop :=
  ∃ v : Value, e = .returned v ∧ Below w.heap.size w w' ∧ OwnRg w' w.heap.size v l

set_option maxRecDepth 100000 in
set_option maxHeartbeats 2000000 in
theorem grow_any (n : Nat) (w : World) (hn : n ≤ 8388608) :
    Calls Try.prog 54 #[.slice none 0 0, .int .i64 n] w (MadePost w []) := by
  obtain ⟨i0, hi0, hz0, hz1, hz2⟩ := info_parts try_infoRange
  by_cases h0 : n = 0
  · subst h0
    clear hi0
    go_enter Try.func54, Try.ntmps54
    go_wp2_with fail
    go_ret
    exact ⟨_, rfl, Below.refl _ _, World.ownsRow_nil _ _ _ _⟩
  · have hrz : ∀ ty, (Builtin.append_ #[23, 3] ty #[.slice none 0 0, .int .i64 n]).run Try.prog w =
        .ok (.slice (some ⟨w.heap.size, 0, none⟩) n (grownCap w n 0 40)) (w.drew.alloc (.cells (Builtin.zeroCells #[.int .i64 0, .int .i64 0] n ++ Builtin.zeroCells #[.int .i64 0, .int .i64 0] (grownCap w n 0 40 - n)) 40)) := fun ty =>
      Lib.run_append_nil_zeros w 23 3 ty 40 i0 (.agg #[.int .i64 0, .int .i64 0]) .i64 .i64 Try.underlying23 Try.underlying3 hi0 hz0 n (by omega) (by omega) (by omega) (by rw [hz2]; omega)
    have hGn : n ≤ grownCap w n 0 40 := grownCap_ge w _ _ _
    have hGm : grownCap w n 0 40 ≤ maxLen := grownCap_le_maxLen w n 0 40 (by unfold maxLen; omega)
    have h1 : ¬ ((n : Int) < 0) := by omega
    have h4 : (0 : Int) < (n : Int) := by omega
    generalize grownCap w n 0 40 = G at hrz hGn hGm
    have hown := Lib.hid (World.ownsRow_made (base := w.heap.size) (e := 40) (size := 2) w.drew (Builtin.zeroCells #[.int .i64 0, .int .i64 0] n ++ Builtin.zeroCells #[.int .i64 0, .int .i64 0] (G - n)) G (Nat.le_refl _) hGm (by rw [Array.size_append, size_zeroCells, size_zeroCells]; simp; omega))
    have HG := Lib.hid hGm
    clear hi0 hz0 hz1 hz2 hGm
    go_enter Try.func54, Try.ntmps54
    go_wp2_with (at_builtin; refine Lib.wpList_append_run _ rfl _ _ _ _ rfl _ _ rfl rfl _ _ (hrz _) ?_)
    go_ret
    exact ⟨_, rfl, (Below.refl w.heap.size w).drew.alloc (Nat.le_refl _) _, hown.out⟩

set_option maxRecDepth 100000 in
set_option maxHeartbeats 2000000 in
theorem concat_any (b : Nat) (va vb : Value) (l m : List (Int × Int)) (w : World) (h0 : w.cell? ⟨b, 0, none⟩ = some va) (h1 : w.cell? ⟨b, 1, none⟩ = some vb) (ha : Rngs w va l) (hb : Rngs w vb m) (hl : l.length ≤ 1048576) (hm : m.length ≤ 1048576) :
    Calls Try.prog 44 #[.slice (some ⟨b, 0, none⟩) 2 2] w (MadePost w (l ++ m)) := by
  have HA := Lib.hid ha
  have HBb := Lib.hid hb
  obtain ⟨a1, c1, rfl, ha⟩ := ha
  obtain ⟨a2, c2, rfl, hb⟩ := hb
  clear ha hb
  have H0 := Lib.hid h0
  have H1 := Lib.hid h1
  have hsum : ((l.length : Int) + (m.length : Int)) = ((l.length + m.length : Nat) : Int) := by omega
  have HS := Lib.hid hsum
  have hn1 : ¬ ((l.length : Int) < 0) := by omega
  have hn2 : ¬ ((l.length : Int) + (m.length : Int) < 0) := by omega
  clear hsum
  go_enter Try.func44, Try.ntmps44
  go_wp2_with fail
  refine wp_loop_rounds 3 ?_
  rw [rounds_succ]
  go_wp2_with fail
  rw [rounds_succ]
  go_wp2_with fail
  rw [rounds_succ]
  go_wp2_with fail
  have hgr := grow_any (l.length + m.length) w (by omega)
  rw [← HS.out] at hgr
  have HGR := Lib.hid hgr
  clear hgr
  refine HGR.out.mono ?_
  rintro e w1 ⟨v1, rfl, hb1, ho1⟩
  have B1 := Lib.hid hb1
  have O1 := Lib.hid ho1
  have A1 := Lib.hid (HA.out.below hb1)
  have A2 := Lib.hid (HBb.out.below hb1)
  have h0 := (hb1.cell (World.block_lt_of_cell? w _ h0)).trans h0
  have h1 := (hb1.cell (World.block_lt_of_cell? w _ h1)).trans h1
  clear hb1 ho1
  go_wp2_with fail
  refine wp_loop_rounds 3 ?_
  rw [rounds_succ]
  go_wp2_with (at_builtin; refine hold ?_)
  refine unhold ?_
  refine wpList_append_rngs (w := w1) rfl (.tmp 31) (.tmp 32) rfl w.heap.size _ _ _ _ rfl O1.out rfl A1.out ?Aa ?Ab ?_
  case Aa => simp; omega
  case Ab => exact B1.out.size
  intro v2 w2 ho2 hg2 _
  have hb2 : Below w.heap.size w w2 := B1.out.grown hg2 B1.out.size (fun j hj => (O1.out.lt j hj).1)
  have B2 := Lib.hid hb2
  have O2 := Lib.hid ho2
  have A2b := Lib.hid (HBb.out.below hb2)
  have h1 := (hb2.cell (World.block_lt_of_cell? w _ H1.out)).trans H1.out
  clear ho2 hg2 hb2
  go_wp2_with fail
  rw [rounds_succ]
  go_wp2_with (at_builtin; refine hold ?_)
  refine unhold ?_
  refine wpList_append_rngs (w := w2) rfl (.tmp 31) (.tmp 32) rfl w.heap.size _ _ _ _ rfl O2.out rfl A2b.out ?Ba ?Bb ?_
  case Ba => simp; omega
  case Bb => exact B2.out.size
  intro v3 w3 ho3 hg3 _
  have B3 := Lib.hid (show Below w.heap.size w w3 from B2.out.grown hg3 B2.out.size (fun j hj => (O2.out.lt j hj).1))
  have O3 := Lib.hid ho3
  clear ho3 hg3
  go_wp2_with fail
  rw [rounds_succ]
  go_wp2_with fail
  go_ret
  exact ⟨_, rfl, B3.out, O3.out⟩

end Go.Proofs.Ytcjhbcibhcogjaa
