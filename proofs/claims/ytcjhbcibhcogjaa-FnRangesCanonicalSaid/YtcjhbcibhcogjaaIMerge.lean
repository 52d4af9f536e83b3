/- The program's mergeRanges and limitRanges. -/
import Derived.Test.YtcjhbcibhcogjaaSAdd
import Derived.Test.YtcjhbcibhcogjaaUnMath
import Derived.StillTailTactics
namespace Go.Proofs.Ytcjhbcibhcogjaa
open Go.RowKit
set_option linter.unusedVariables false
set_option linter.unusedSimpArgs false

def OutPost (w : World) (l : List (Int × Int)) (e : Ending) (w' : World) : Prop :=
  ∃ v : Value, e = .returned v ∧ Below w.heap.size w w' ∧ OwnRg w' w.heap.size v l ∧ v ≠ .slice none 0 0

theorem merge_step_fold (s : List (Int × Int)) (k : Nat) (h : k < s.length) {o : List (Int × Int)} (hf : (s.take k).foldl mergeStep [] = o) : (s.take (k + 1)).foldl mergeStep [] = mergeStep o ((s.getD k (0, 0)).1, (s.getD k (0, 0)).2) := by
  rw [take_get s k h, List.foldl_append, hf]; rfl
theorem rcells_last (o : List (Int × Int)) (p q : Int) : (rcells (o ++ [(p, q)]))[o.length * 2 + 1]? = some (.int .i64 q) := by
  rw [rcells_snoc, List.getElem?_append_right (by rw [rcells_len]; omega), rcells_len, show o.length * 2 + 1 - o.length * 2 = 1 by omega]; rfl
theorem rcells_set (o : List (Int × Int)) (p q z : Int) : (rcells (o ++ [(p, q)])).set (o.length * 2 + 1) (.int .i64 z) = rcells (o ++ [(p, z)]) := by
  rw [rcells_snoc, rcells_snoc, List.set_append_right _ _ (by rw [rcells_len]; omega), rcells_len, show o.length * 2 + 1 - o.length * 2 = 1 by omega]; rfl
theorem own_last {w : World} {B g c : Nat} {o : List (Int × Int)} {p q : Int} (z : Int) (h : w.ownsRow B 40 2 (.slice (some ⟨g, 0, none⟩) (o.length + 1) c) (o.length + 1) (rcells (o ++ [(p, q)]))) :
    w.cell? ⟨g, o.length * 2 + 1, none⟩ = some (.int .i64 q) ∧ w.frozen? ⟨g, o.length * 2 + 1, none⟩ = false ∧ OwnRg (w.setCell ⟨g, o.length * 2 + 1, none⟩ (.int .i64 z)) B (.slice (some ⟨g, 0, none⟩) (o.length + 1) c) (o ++ [(p, z)]) ∧ B ≤ g := by
  refine ⟨by rw [World.ownsRow.cellAt h _ (by omega), rcells_last], World.ownsRow.frozenAt h _, ?_, (h.lt g rfl).1⟩
  have := (World.ownsRow.stored h (o.length * 2 + 1) (.int .i64 z)).1
  rw [rcells_set] at this
  unfold OwnRg
  rw [List.length_append, List.length_singleton]
  exact this

theorem Bnd.last {o : List (Int × Int)} {p q y : Int} (h : Bnd (o ++ [(p, q)])) (hy : bnd y) : Bnd (o ++ [(p, max q y)]) := by
  intro r hr
  rcases List.mem_append.1 hr with hr | hr
  · exact h r (List.mem_append.2 (.inl hr))
  · have : r = (p, max q y) := by simpa using hr
    have hq := h (p, q) (by simp)
    rw [this]
    unfold bnd at *
    simp only at *
    omega
theorem own_drewN {w : World} {B n : Nat} {e : TypeId} {k : Nat} {v : Value} {xs : List Value} (h : w.ownsRow B e k v n xs) (m : Nat) : (w.drewN m).ownsRow B e k v n xs := h
theorem own_form {w : World} {B : Nat} {v : Value} {l : List (Int × Int)} (h : OwnRg w B v l) (h0 : 0 < l.length) : ∃ g c, v = .slice (some ⟨g, 0, none⟩) l.length c := by
  obtain ⟨_, h | ⟨g, c, cur, h, _⟩⟩ := h
  · omega
  · exact ⟨g, c, h⟩
theorem cell_two_new' (w : World) (a b : Value) (T : TypeId) {n : Nat} (h : w.heap.size = n) : ∀ j u, [a, b][j]? = some u → (w.alloc (.cells #[a, b] T)).cell? ((⟨n, 0, none⟩ : Addr).add j) = some u := by
  subst h
  exact cell_two_new w a b T
/-- An append behind a block and draws of the round's own. -/
theorem below_own3 {w wr w2 : World} {n B m k : Nat} {e : TypeId} {v : Value} {xs : List Value} {o o2 : Obj} (h : Below B w wr) (hown : wr.ownsRow B e k v m xs) (hB : B ≤ wr.heap.size) (hg : (((wr.alloc o).drewN n).alloc o2).grownBy w2 v.ownBlock) : Below B w w2 :=
  below_own (below_drewN' (h.alloc hB o) n) (own_drewN (World.ownsRow.alloc hown o) n) (by simp; omega) hg

set_option maxRecDepth 100000 in
set_option maxHeartbeats 4000000 in
theorem merge_any (v : Value) (s : List (Int × Int)) (w : World) (h : Rngs w v s) (hlen : s.length ≤ 1048576) (hel : Bnd s) :
    Calls Try.prog 48 #[v] w (OutPost w (lmerge s)) := by
  obtain ⟨i0, hi0, hz0, hz1, hz2⟩ := info_parts try_infoRange
  have HI := Lib.hid hi0
  obtain ⟨a, c, rfl, h⟩ := h
  have HC := Lib.hid h
  have HEL := Lib.hid hel
  clear h hi0 hel
  go_enter Try.func48, Try.ntmps48
  go_wp2_with fail
  go_loopw [3, 5, 6, 10] (fun ov rv tv iv wr => ∃ (k : Nat) (out : List (Int × Int)), k ≤ s.length ∧ iv = .int .i64 k ∧ Hid ((s.take k).foldl mergeStep [] = out) ∧ Hid (out.length ≤ k ∧ Bnd out) ∧ OwnRg wr w.heap.size ov out ∧ Below w.heap.size w wr ∧ ov ≠ .slice none 0 0) (fun _ _ _ iv _ => s.length - (intOf iv).toNat)
  case atStart => exact ⟨0, [], Nat.zero_le _, rfl, rfl, ⟨Nat.le_refl _, fun r hr => by simp at hr⟩, own_new _ _ _ _ (Nat.le_refl _), (Below.refl _ _).alloc (Nat.le_refl _) _, by simp⟩
  case round =>
    obtain ⟨k, out, hk, rfl, HF, HBN, hown, hbel, hnn⟩ := hrel
    have HB := Lib.hid hbel
    have HO := Lib.hid hown
    have HN := Lib.hid hnn
    have hol := HBN.out.1
    clear hbel hown hnn
    by_cases hlt : k < s.length
    · obtain ⟨g, o, rfl, hc⟩ := HC.out (by rintro rfl; simp at hlt)
      have b1 : (k : Int) < (s.length : Int) := by omega
      obtain ⟨e1, e2⟩ := hc k hlt
      have e1 := (HB.out.cell (World.block_lt_of_cell? w _ e1)).trans e1
      have e2 := (HB.out.cell (World.block_lt_of_cell? w _ e2)).trans e2
      have HST := Lib.hid (merge_step_fold s k hlt HF.out)
      have hbx := HEL.out (s.getD k (0, 0)) (by rw [List.getD_eq_getElem?_getD, List.getElem?_eq_getElem hlt]; exact List.getElem_mem hlt)
      clear hc
      generalize (s.getD k (0, 0)).1 = x at e1 HST hbx
      generalize (s.getD k (0, 0)).2 = y at e2 HST hbx
      have HBX := Lib.hid hbx
      obtain ⟨⟨x1, x2⟩, ⟨y1, y2⟩⟩ := hbx
      rcases List.eq_nil_or_concat out with h0 | ⟨o', q, h0⟩
      · subst h0
        have HA := Lib.hid (show mergeStep [] (x, y) = [] ++ [(x, y)] by simp [mergeStep])
        obtain ⟨la, lc, rfl⟩ := ownsRow_shape HO.out
        go_wp2_with fail
        go_quiet (fail)
        go_wp2_with (at_builtin; refine hold ?_)
        refine unhold ?_
        refine wpList_append_own (w := ((wr.alloc (.cells #[.int .i64 x, .int .i64 y] 40)).drewN nq).alloc (.cells #[.int .i64 x, .int .i64 y] 40)) rfl (.tmp 42) (.tmp 44) 23 rfl w.heap.size 40 i0 (.agg #[.int .i64 0, .int .i64 0]) 2 16 Try.underlying23 HI.out hz0 hz1 hz2 rfl (by decide) _ _ _ rfl (World.ownsRow.alloc (own_drewN (World.ownsRow.alloc HO.out _) nq) _) ⟨wr.heap.size + 1, 0, none⟩ 1 1 [.int .i64 x, .int .i64 y] rfl rfl ?Ad (one2 _ _) ?Aa ?Ab ?Ac ?_
        case Ad => exact cell_two_new' _ _ _ _ (by simp)
        case Aa => unfold maxLen; omega
        case Ab => omega
        case Ac => have := HB.out.size; simp; omega
        intro v' w2 hown2 hgrow hiff
        have HO2 := Lib.hid (own_snoc hown2)
        have HB2 := Lib.hid (below_own3 HB.out HO.out HB.out.size hgrow)
        have HN2 := Lib.hid (nn_after HN.out hiff)
        clear hown2 hgrow hiff
        go_wp2_with fail
        go_roundw
        case rel => exact ⟨k + 1, _, by omega, by go_num, HST.out.trans HA.out, ⟨by simp; try omega, HBN.out.2.snoc HBX.out.1 HBX.out.2⟩, HO2.out, HB2.out, HN2.out⟩
        case measure => simp [intOf]; omega
      · obtain ⟨p, q⟩ := q
        rw [List.concat_eq_append] at h0
        subst h0
        have hlo : (o' ++ [(p, q)]).length = o'.length + 1 := by simp
        obtain ⟨gg, lc, rfl⟩ := own_form HO.out (by simp)
        have HO1 := Lib.hid (World.ownsRow.alloc HO.out (.cells #[.int .i64 x, .int .i64 y] 40))
        rw [hlo] at HO1 hol HN
        have HOL := Lib.hid (show wr.ownsRow w.heap.size 40 2 (.slice (some ⟨gg, 0, none⟩) (o'.length + 1) lc) (o'.length + 1) (rcells (o' ++ [(p, q)])) by rw [← hlo]; exact HO.out)
        have hbq : bnd p ∧ bnd q := HBN.out.2 (p, q) (by simp)
        obtain ⟨⟨p1, p2⟩, q1, q2⟩ := hbq
        obtain ⟨hcell, hfroz, hset, hgB⟩ := own_last (max q y) HO1.out
        have HSET := Lib.hid hset
        have b2 : (o'.length : Int) < ((o' ++ [(p, q)]).length : Int) := by rw [hlo]; omega
        have w2 : IntKind.i64.wrap (q + 1) = q + 1 := IntWalk.i64_in _ (by omega)
        have w3 : (0 : Int) ≤ (o'.length : Int) := by omega
        have b3 : (o'.length : Int) < (o'.length : Int) + 1 := by omega
        clear hset
        by_cases c1 : x ≤ q + 1
        · have HA := Lib.hid (show mergeStep (o' ++ [(p, q)]) (x, y) = o' ++ [(p, max q y)] by rw [mergeStep_snoc, if_pos c1])
          have hd1 : decide (x ≤ q + 1) = true := decide_eq_true c1
          go_wp2_with fail
          go_quiet (fail)
          go_wp2_with fail
          refine wp_region_still_tail 10 (by kernel_rfl) (by kernel_rfl) ?_
          obtain ⟨W, hW⟩ : ∃ W, ({ ((wr.alloc (.cells #[.int .i64 x, .int .i64 y] 40)).drewN nq) with drawn := ((wr.alloc (.cells #[.int .i64 x, .int .i64 y] 40)).drewN nq).drawn + 1 } : World) = W := ⟨_, rfl⟩
          have f1 : W.cell? ⟨gg, o'.length * 2 + 1, none⟩ = some (.int .i64 q) := by rw [← hW]; exact hcell
          have f2 : W.cell? ⟨wr.heap.size, 1, none⟩ = some (.int .i64 y) := by rw [← hW]; exact cell_two_new wr (.int .i64 x) (.int .i64 y) 40 1 _ rfl
          have f3 : W.frozen? ⟨gg, o'.length * 2 + 1, none⟩ = false := by rw [← hW]; exact hfroz
          have HBW := Lib.hid (show Below w.heap.size w W by rw [← hW]; exact below_drewN' (HB.out.alloc HB.out.size _) (nq + 1))
          have HOW := Lib.hid (show OwnRg (W.setCell ⟨gg, o'.length * 2 + 1, none⟩ (.int .i64 (max q y))) w.heap.size (.slice (some ⟨gg, 0, none⟩) (o'.length + 1) lc) (o' ++ [(p, max q y)]) by rw [← hW]; exact HSET.out)
          rw [hW]
          clear hW hcell hfroz
          simp only [List.take_succ_cons, List.take_zero, List.drop_succ_cons, List.drop_zero]
          iterate 10 still_step
          refine wpStill_nil ?_
          go_wp2_with fail
          go_roundw
          case rel => exact ⟨k + 1, _, by omega, by go_num, HST.out.trans HA.out, ⟨by simp; try omega, HBN.out.2.last HBX.out.2⟩, (by rw [show (if q < y then y else q) = max q y by split <;> omega]; exact HOW.out), HBW.out.setCell (p := ⟨gg, o'.length * 2 + 1, none⟩) hgB _, HN.out⟩
          case measure => simp [intOf]; omega
        · have HA := Lib.hid (show mergeStep (o' ++ [(p, q)]) (x, y) = o' ++ [(p, q)] ++ [(x, y)] by rw [mergeStep_snoc, if_neg c1])
          have hd1 : decide (x ≤ q + 1) = false := decide_eq_false c1
          go_wp2_with fail
          go_quiet (fail)
          go_wp2_with (at_builtin; refine hold ?_)
          refine unhold ?_
          refine wpList_append_own (w := ((wr.alloc (.cells #[.int .i64 x, .int .i64 y] 40)).drewN nq).alloc (.cells #[.int .i64 x, .int .i64 y] 40)) rfl (.tmp 42) (.tmp 44) 23 rfl w.heap.size 40 i0 (.agg #[.int .i64 0, .int .i64 0]) 2 16 Try.underlying23 HI.out hz0 hz1 hz2 rfl (by decide) _ _ _ rfl (World.ownsRow.alloc (own_drewN (World.ownsRow.alloc HOL.out _) nq) _) ⟨wr.heap.size + 1, 0, none⟩ 1 1 [.int .i64 x, .int .i64 y] rfl rfl ?Bd (one2 _ _) ?Ba ?Bb ?Bc ?_
          case Bd => exact cell_two_new' _ _ _ _ (by simp)
          case Ba => unfold maxLen; omega
          case Bb => omega
          case Bc => have := HB.out.size; simp; omega
          intro v' w2 hown2 hgrow hiff
          have HO2 := Lib.hid (own_snoc (by rw [hlo]; exact hown2))
          have HB2 := Lib.hid (below_own3 HB.out HOL.out HB.out.size hgrow)
          have HN2 := Lib.hid (nn_after HN.out hiff)
          clear hown2 hgrow hiff
          go_wp2_with fail
          go_roundw
          case rel => exact ⟨k + 1, _, by omega, by go_num, HST.out.trans HA.out, ⟨by simp; try omega, HBN.out.2.snoc HBX.out.1 HBX.out.2⟩, HO2.out, HB2.out, HN2.out⟩
          case measure => simp [intOf]; omega
    · have hfin : lmerge s = out := by
        have := HF.out
        rwa [List.take_of_length_le (by omega)] at this
      have HFIN := Lib.hid hfin
      clear hfin
      go_wp2_with fail
      go_ret
      exact ⟨_, rfl, HB.out, by rw [HFIN.out]; exact HO.out, HN.out⟩

set_option maxRecDepth 100000 in
set_option maxHeartbeats 400000 in
theorem limit_any (v : Value) (l : List (Int × Int)) (w : World) (B : Nat) (hO : OwnRg w B v l) (hn : v ≠ .slice none 0 0) (hB : B ≤ w.heap.size) (hlen : l.length ≤ 1048576) :
    Calls Try.prog 42 #[v] w fun e w' => ∃ u : Value, e = .returned (.tuple #[u, .bool (decide (l.length ≤ 16))]) ∧ Below w.heap.size w w' ∧ OwnRg w' B u (if l.length ≤ 16 then l else []) ∧ u ≠ .slice none 0 0 := by
  have HO := Lib.hid hO
  have HN := Lib.hid hn
  obtain ⟨la, lc, rfl⟩ := ownsRow_shape hO
  clear hO hn
  by_cases h : l.length ≤ 16
  · have h' : ¬ (16 : Int) < (l.length : Int) := by omega
    rw [if_pos h, decide_eq_true h]
    go_enter Try.func42, Try.ntmps42
    go_wp2_with fail
    go_ret2
    exact ⟨_, rfl, Below.refl _ _, HO.out, HN.out⟩
  · have h' : (16 : Int) < (l.length : Int) := by omega
    rw [if_neg h, decide_eq_false h]
    go_enter Try.func42, Try.ntmps42
    go_wp2_with fail
    go_ret2
    exact ⟨_, rfl, (Below.refl _ _).alloc (Nat.le_refl _) _, own_new _ _ _ _ hB, by simp⟩

end Go.Proofs.Ytcjhbcibhcogjaa
