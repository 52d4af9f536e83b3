/- The library's slices.AppendSeq at ranges, and the program's RangesGaps. -/
import Derived.Test.YtcjhbcibhcogjabIGap
import Derived.Test.YtcjhbcibhcogjabSGaps
import Derived.Maps.AppendAt
namespace Go.Proofs.Ytcjhbcibhcogjab
open Go.RowKit Go.Shelf
set_option linter.unusedVariables false
set_option linter.unusedSimpArgs false
attribute [local go_sem] Oper.semAt_some

theorem kb_app {X : Nat → Prop} {W w2 : World} {o : Obj} {row : Option Nat} {b0 : Nat} {v' : Value} (hg : (W.alloc o).grownBy w2 row) (hrow : ∀ j, row = some j → X j) (hb : X b0) : KB X W (w2.setCell ⟨b0, 0, none⟩ v') := by
  have h1 : W.heap.size ≤ w2.heap.size := by have := hg.size; simp at this; omega
  refine ⟨Nat.le_trans h1 (KeepsOthers.setCell w2 ⟨b0, 0, none⟩ v').size, fun k p hk hp _ => ?_⟩
  have hlt := (Array.getElem?_eq_some_iff.1 hp).1
  rw [heap_setCell_other w2 ⟨b0, 0, none⟩ k v' (fun e => hk (by rw [show k = b0 from e]; exact hb))]
  rw [hg.block k (by simp; omega) (fun e => hk (hrow k e.symm))]
  exact (Below.heap_alloc W o k hlt).trans hp
/-- The loop variable's own block. -/
def Two (W : World) (B : Nat) (x : Int × Int) : Prop := W.heap[B]? = some (.cells #[.int .i64 x.1, .int .i64 x.2] 49 (0, 0))
theorem Two.cells {W : World} {B : Nat} {x : Int × Int} (h : Two W B x) : W.cell? ⟨B, 0, none⟩ = some (.int .i64 x.1) ∧ W.cell? ⟨B, 1, none⟩ = some (.int .i64 x.2) := by
  unfold Two at h
  exact ⟨by unfold World.cell?; rw [h]; rfl, by unfold World.cell?; rw [h]; rfl⟩
theorem Two.new (W : World) (x : Int × Int) : Two (W.alloc (.cells #[.int .i64 x.1, .int .i64 x.2] 49)) W.heap.size x := World.alloc_heap_new W _
theorem two_own (B0 B : Nat) (x : Int × Int) : OwnFrom B0 (fun (_ : Unit) W => Two W B x) := fun s A C row hs hg hr => by
  have hlt := (Array.getElem?_eq_some_iff.1 (show A.heap[B]? = _ from hs)).1
  refine (hg.block B hlt (fun e => ?_)).trans hs
  obtain ⟨_, o, ho, hc⟩ := hr B e.symm
  rw [show A.heap[B]? = _ from hs] at ho; cases ho; cases hc

set_option maxRecDepth 100000 in
set_option maxHeartbeats 2000000 in
theorem appseq_any (v : Value) (gf : Nat) (lb : Array Value) (X : Nat → Prop) (g0 bl : Nat) (ys : List (Int × Int)) (N : Nat) (sv : Value) (w : World)
    (hv : OwnRg w g0 v []) (hn : v ≠ .slice none 0 0) (hbl : Boxed w bl 23 sv) (hX : ∀ k, g0 ≤ k → k ≠ bl → X k) (hg : g0 ≤ w.heap.size) (hN : N ≤ 1048576)
    (eg : ∀ args w, (callFunc gf args).run Try.prog w = .ok (.enter gf args) w)
    (hseq : ∀ w', Below w.heap.size w w' → SeqStopsK Fence.wide 2 Try.prog gf lb (fun x : Int × Int => #[Value.agg #[.int .i64 x.1, .int .i64 x.2]]) (KB X) (fun zs => zs = ys) (fun pre => pre <+: ys) N w') :
    Calls Try.prog 48 #[v, .func (.func gf) #[] lb] w fun e w' => ∃ u : Value, e = .returned u ∧ Below g0 w w' ∧ OwnRg w' g0 u ys ∧ u ≠ .slice none 0 0 := by
  obtain ⟨i0, hi0, hz0, hz1, hz2⟩ := info_parts try_infoRange
  have HI := Lib.hid hi0
  have HV := Lib.hid hv
  obtain ⟨la, lc, rfl⟩ := ownsRow_shape hv
  clear hv hi0
  refine (callsIn_wide (n := 3)).1 ?_
  refine callsIn_of_wp_marks Try.func48 rfl trivial ?_ rfl
  simp only [Try.ntmps48, List.size_toArray, List.length_cons, List.length_nil, Nat.reduceAdd, Nat.reduceSub, Array.replicate_succ, Array.replicate_zero, List.push_toArray, List.append_toArray, List.nil_append, List.cons_append]
  gi_wp2_with fail
  have hblt := hbl.lt
  have hb1 : Boxed (w.alloc (.cells #[.slice la 0 lc] 23)) w.heap.size 23 (.slice la 0 lc) := Boxed.new w _ _
  have hB1 : Below w.heap.size w (w.alloc (.cells #[.slice la 0 lc] 23)) := (Below.refl _ w).alloc (Nat.le_refl _) _
  have hr1 : (w.alloc (.cells #[.slice la 0 lc] 23)).ownsRow g0 49 2 (.slice la 0 lc) ([] : List (Int × Int)).length (rcells []) := World.ownsRow.alloc HV.out _
  have hne : 23 ≠ 49 := by decide
  refine wpIn_rangeFunc_ownH rfl (by omega) (gf := gf) (lb := lb) rfl trivial eg (hseq _ hB1) kb_t kb_b (Below.refl _ _) (fun _ => rfl)
    (fun pre W => (∃ u, Boxed W w.heap.size 23 u ∧ W.ownsRow g0 49 2 u pre.length (rcells pre) ∧ u ≠ .slice none 0 0) ∧ (Boxed W bl 23 sv ∧ Below g0 w W))
    (fun _ _ _ => False)
    (OwnFrom.and (Own.from (holdsRow_own g0 w.heap.size 23 49 2 (fun pre : List (Int × Int) => pre.length) (fun pre => rcells pre) (fun _ u => u ≠ .slice none 0 0)) _) (OwnFrom.and (Own.from (boxed_own _ _ _) _) (ownFrom_below hg (by simp; omega))))
    (fun _ _ _ _ _ hs _ _ => hs)
    ⟨⟨_, hb1, hr1, hn⟩, hbl.alloc _, hB1.mono hg⟩
    (fun x a' W => ∃ Bx, w.heap.size < Bx ∧ Two W Bx x ∧ a' = { tmps := #[.slice la 0 lc, .func (.func gf) #[] lb, .pointer (some ⟨w.heap.size, 0, none⟩), undef, .slice none 0 0, .pointer (some ⟨Bx, 0, none⟩), .func (.func gf) #[] lb, .agg #[.int .i64 x.1, .int .i64 x.2], undef, undef, undef, undef, undef], defers := [] })
    (fun x a' => fun s A C row ⟨Bx, h1, h2, h3⟩ hg hr => ⟨Bx, h1, two_own _ Bx x () A C row h2 hg hr, h3⟩)
    ?assign ?body ?done ?stop
  case assign =>
    rintro l pre x W K ⟨⟨u, hbu, hru, hnu⟩, hbb, hB⟩ hK
    gi_wp2
    have hsz : w.heap.size < W.heap.size := hbu.lt
    exact hK _ _ ((KeepsOthers.alloc _ _).from _) (kb_alloc (kb_refl _ _) _) ⟨⟨u, hbu.alloc _, World.ownsRow.alloc hru _, hnu⟩, hbb.alloc _, hB.alloc (Nat.le_trans hg hB.size) _⟩ ⟨W.heap.size, hsz, Two.new W x, rfl⟩
  case body =>
    rintro l pre x a' W hl ⟨r, hr⟩ ⟨⟨u, hbu, hru, hnu⟩, hbb, hB⟩ ⟨Bx, hBx, bX, rfl⟩ hlt
    obtain ⟨ua, uc, rfl⟩ := ownsRow_shape hru
    have hc := hbu.cell
    have hf := hbu.frozen
    obtain ⟨x0, x1⟩ := bX.cells
    gi_wp2_with (gi_at_builtin; refine hold ?_)
    refine unhold ?_
    refine wpListIn_append_own (W.alloc (.cells #[.int .i64 x.1, .int .i64 x.2] 49)) rfl (.tmp 8) (.tmp 10) 23 rfl g0 49 i0 (.agg #[.int .i64 0, .int .i64 0]) 2 16 Try.underlying23 HI.out hz0 hz1 hz2 rfl (by decide) _ _ _ rfl (World.ownsRow.alloc hru _) ⟨W.heap.size, 0, none⟩ 1 1 [.int .i64 x.1, .int .i64 x.2] rfl rfl (cell_two_new _ _ _ _) (one2 _ _) ?Aa ?Ab ?Ac ?_
    case Aa => unfold maxLen; omega
    case Ab => omega
    case Ac => have := hB.size; simp; omega
    intro v' w2 hown' hgrow hiff
    have hsz : w.heap.size ≤ W.heap.size := by have := hbu.lt; omega
    obtain ⟨hv1, hv2, hr2, hk2, hb2⟩ := hbu.appended hne hru (by omega) hg hown' hgrow
    have hrowX : ∀ j, (Value.slice ua pre.length uc).ownBlock = some j → X j := fun j hj => hX j (World.ownsRow.lt hru j hj).1 (fun e => (hbb.not_row hne hru) (by rw [hj, e]))
    have hbl2 : Boxed (w2.setCell ⟨w.heap.size, 0, none⟩ v') bl 23 sv := ((hbb.alloc _).kept hgrow (hbb.not_row hne hru)).other (by omega) _
    have hkb : KB X W (w2.setCell ⟨w.heap.size, 0, none⟩ v') := kb_app hgrow hrowX (hX _ hg (by omega))
    have hnn : v' ≠ .slice none 0 0 := nn_after hnu hiff
    have hc1 := hv1.cell
    have hf1 := hv1.frozen
    have HH := Lib.hid (show _ from (⟨hv2, hr2, hk2, hb2, hbl2, hkb, hnn⟩ : _ ∧ _ ∧ _ ∧ _ ∧ _ ∧ _ ∧ _))
    clear hv2 hr2 hk2 hb2 hbl2 hkb hnn hgrow hiff hrowX
    have hsh := ownsRow_shape hown'
    obtain ⟨a5, c5, rfl⟩ := hsh
    clear hown'
    gi_wp2
    obtain ⟨hv2, hr2, hk2, hb2, hbl2, hkb, hnn⟩ := HH.out
    refine ⟨hk2.from _, hkb, ⟨_, hv2, ?_, hnn⟩, hbl2, hB.trans hb2⟩
    rw [List.length_append, List.length_singleton, show pre ++ [x] = pre ++ [(x.1, x.2)] from rfl, rcells_snoc]
    exact hr2
  case done =>
    rintro D zs W hD rfl ⟨⟨u, hbu, hru, hnu⟩, hbb, hB⟩ hK
    obtain ⟨ua, uc, rfl⟩ := ownsRow_shape hru
    have hc := hbu.cell
    gi_wp2
    refine ⟨by simp, .inl ⟨_, _, rfl, run_takeDeferred hK, ?_⟩⟩
    exact ⟨_, results_tmp rfl _ _ _, .slice ua zs.length uc, rfl, hB.trans (belowK_b (w := w) hg W D _ _ (by simp at hD; omega) hK rfl rfl), ownsRow_putObj hru _ hK rfl, hnu⟩
  case stop =>
    rintro D c pre W _ _ h _
    exact h.elim

set_option maxRecDepth 100000 in
set_option maxHeartbeats 2000000 in
theorem igaps_any (v : Value) (l : List (Int × Int)) (w : World) (h : Rngs w v l) (hlen : l.length ≤ 1048576) :
    Calls Try.prog 29 #[v] w (GapPost w (rgaps l)) := by
  obtain ⟨a, c, rfl, h1⟩ := id h
  have HR := Lib.hid h
  clear h1 h
  go_enter Try.func29, Try.ntmps29
  go_wp2_with fail
  refine (ivalid_any _ l w HR.out hlen).mono ?_
  rintro e w1 ⟨rfl, hb1⟩
  have B1 := Lib.hid hb1
  clear hb1
  cases hv : rvalid l with
  | false =>
    have HX := Lib.hid (rgaps_no hv)
    clear hv
    go_wp2_with fail
    go_ret
    exact ⟨_, rfl, B1.out.alloc B1.out.size _, by rw [HX.out]; exact own_new _ _ _ _ B1.out.size, by simp⟩
  | true =>
    have HX := Lib.hid (rgaps_yes hv)
    have HV := Lib.hid (rvalid_parts hv).1
    clear hv
    go_wp2_with fail
    refine ((callsIn_wide (n := 3)).1 (gap_make 3 a l.length c _)).mono ?_
    rintro e w2 ⟨rfl, rfl⟩
    go_wp2_with fail
    have hsA : (w1.alloc (.cells #[] 49)).heap.size = w1.heap.size + 1 := by simp
    have hB : Below w.heap.size w ((w1.alloc (.cells #[] 49)).alloc (.cells #[.slice a l.length c] 23)) := (B1.out.alloc B1.out.size _).alloc (by have := B1.out.size; simp; omega) _
    have hbox : Boxed ((w1.alloc (.cells #[] 49)).alloc (.cells #[.slice a l.length c] 23)) (w1.heap.size + 1) 23 (.slice a l.length c) := by rw [← hsA]; exact Boxed.new _ _ _
    have hs1 := B1.out.size
    refine (appseq_any (.slice (some ⟨w1.heap.size, 0, none⟩) 0 0) 58 #[.pointer (some ⟨w1.heap.size + 1, 0, none⟩)] (fun k => w1.heap.size ≤ k ∧ k ≠ w1.heap.size + 1) w1.heap.size (w1.heap.size + 1) (lgaps l) l.length (.slice a l.length c) _ (World.ownsRow.alloc (own_new 49 2 w1.heap.size w1 (Nat.le_refl _)) _) (by simp) hbox (fun k h1 h2 => ⟨h1, h2⟩) (by simp; omega) hlen (enters_of Try.func58 (by kernel_rfl) rfl) ?hs).mono ?_
    case hs =>
      intro w' hw
      refine gaps_stops 2 (by omega) (w1.heap.size + 1) _ (.slice a l.length c) l w' (fun h => h.2 rfl) hlen ?_ ?_ HV.out
      · exact (hw.cell (p := ⟨w1.heap.size + 1, 0, none⟩) (by simp)).trans hbox.cell
      · exact RX.of HR.out (hB.trans (hw.mono hB.size)) (fun k hk => Nat.le_trans hs1 hk.1)
    rintro e w3 ⟨u, rfl, hb3, ho3, hn3⟩
    have B3 := Lib.hid (hB.trans (hb3.mono hs1))
    have O3 := Lib.hid (ho3.lower hs1)
    have N3 := Lib.hid hn3
    clear hb3 ho3 hn3 hB hbox
    go_wp2_with fail
    go_ret
    exact ⟨_, rfl, B3.out, by rw [HX.out]; exact O3.out, N3.out⟩

end Go.Proofs.Ytcjhbcibhcogjab
