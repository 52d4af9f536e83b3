/- The program's RangesCount. -/
import Derived.Test.YtcjhbcibhcogjabINums
import Derived.Test.YtcjhbcibhcogjabSCnt
import Derived.RangeFuncFrom
namespace Go.Proofs.Ytcjhbcibhcogjab
open Go.RowKit Go.Shelf
set_option linter.unusedVariables false
set_option linter.unusedSimpArgs false
attribute [local go_sem] Oper.semAt_some

theorem boxc_new (W : World) (v : Value) (t : TypeId) : (W.alloc (.cells #[v] t)).cell? ⟨W.heap.size, 0, none⟩ = some v ∧ (W.alloc (.cells #[v] t)).frozen? ⟨W.heap.size, 0, none⟩ = false := by
  have h : (W.alloc (.cells #[v] t)).heap[W.heap.size]? = some (.cells #[v] t) := by show (W.heap.push _)[W.heap.size]? = _; simp
  exact ⟨by unfold World.cell?; rw [h]; simp, by unfold World.frozen?; rw [h]; simp⟩
theorem cellc_alloc {W : World} {a : Addr} {v : Value} (o : Obj) (h : W.cell? a = some v) : (W.alloc o).cell? a = some v := cell_kept h (World.grownBy_alloc W o none) (fun r e => by cases e)
theorem frozenc_alloc {W : World} {a : Addr} {v : Value} (o : Obj) (h : W.cell? a = some v) (hf : W.frozen? a = false) : (W.alloc o).frozen? a = false := (frozen_kept h (World.grownBy_alloc W o none) (fun r e => by cases e)).trans hf
theorem kb_set (W : World) (b : Nat) (v : Value) : KB (fun k => k = b) W (W.setCell ⟨b, 0, none⟩ v) := by
  refine ⟨(KeepsOthers.setCell W ⟨b, 0, none⟩ v).size, fun k o hk ho _ => ?_⟩
  rw [heap_setCell_other W ⟨b, 0, none⟩ k v (fun e => hk e)]
  exact ho

set_option maxRecDepth 100000 in
set_option maxHeartbeats 2000000 in
theorem icount_any (v : Value) (l : List (Int × Int)) (w : World) (h : Rngs w v l) (hlen : l.length ≤ 1048576) :
    Calls Try.prog 31 #[v] w fun e w' => e = .returned (.int .i64 (rcount l)) ∧ Below w.heap.size w w' := by
  obtain ⟨a, c, rfl, h1⟩ := id h
  have HR := Lib.hid h
  have hval := ivalid_any (.slice a l.length c) l w h hlen
  clear h1 h
  refine (callsIn_wide (n := 3)).1 ?_
  refine callsIn_of_wp_marks Try.func31 rfl trivial ?_ rfl
  simp only [Try.ntmps31, List.size_toArray, List.length_cons, List.length_nil, Nat.reduceAdd, Nat.reduceSub, Array.replicate_succ, Array.replicate_zero, List.push_toArray, List.append_toArray, List.nil_append, List.cons_append]
  cases hv : rvalid l with
  | false =>
    have HX := Lib.hid (show rcount l = -1 by unfold rcount; rw [hv]; rfl)
    rw [hv] at hval
    have HV := Lib.hid hval
    clear hval hv
    gi_wp2_with fail
    refine ⟨trivial, (callsIn_wide.2 HV.out).mono ?_⟩
    rintro e w3 ⟨rfl, hb3⟩
    have HB3 := Lib.hid hb3
    clear hb3
    gi_wp2_with fail
    exact ⟨_, results_tmp rfl _ _ _, by rw [HX.out]; rfl, HB3.out⟩
  | true =>
    have HX := Lib.hid (show rcount l = rcnt l by unfold rcount; rw [hv]; rfl)
    rw [hv] at hval
    have HV := Lib.hid hval
    have HVF := Lib.hid (rvalid_parts hv).1
    clear hval hv
    gi_wp2_with fail
    refine ⟨trivial, (callsIn_wide.2 HV.out).mono ?_⟩
    rintro e w3 ⟨rfl, hb3⟩
    have HB3 := Lib.hid hb3
    have hs3 := hb3.size
    clear hb3
    gi_wp2_with fail
    refine ⟨trivial, (nums_make Fence.wide _ trivial rfl a l.length c _).mono ?_⟩
    rintro e w4 ⟨rfl, rfl⟩
    gi_wp2_with fail
    have hB4 : Below w.heap.size w ((w3.alloc (.cells #[.int .i64 0] 3)).alloc (.cells #[.slice a l.length c] 23)) := (HB3.out.alloc HB3.out.size _).alloc (by simp; omega) _
    have g1 := (boxc_new w3 (.int .i64 0) 3).1
    have g2 := (boxc_new w3 (.int .i64 0) 3).2
    have hbx := (boxc_new (w3.alloc (.cells #[.int .i64 0] 3)) (.slice a l.length c) 23).1
    rw [World.size_alloc] at hbx
    have f3 := frozenc_alloc (.cells #[.slice a l.length c] 23) g1 g2
    have f1 := cellc_alloc (.cells #[.slice a l.length c] 23) g1
    have hRX : RX (fun k => k = w3.heap.size) ((w3.alloc (.cells #[.int .i64 0] 3)).alloc (.cells #[.slice a l.length c] 23)) (.slice a l.length c) l := RX.of HR.out hB4 (fun k h => by omega)
    refine wpIn_rangeFunc_ownF rfl (by omega) (gf := 53) (lb := #[.pointer (some ⟨w3.heap.size + 1, 0, none⟩)]) rfl trivial (enters_of Try.func53 (by kernel_rfl) rfl)
      (nums_stops Fence.wide _ trivial rfl (by omega) (w3.heap.size + 1) (fun k => k = w3.heap.size) (.slice a l.length c) l _ (fun k h => by simp; omega) hlen hbx hRX HVF.out) kb_t kb_b (Below.refl _ _) (fun _ => rfl)
      (fun pre W => (W.cell? ⟨w3.heap.size, 0, none⟩ = some (.int .i64 (pre.length : Int)) ∧ W.frozen? ⟨w3.heap.size, 0, none⟩ = false) ∧ Below w.heap.size w W)
      (fun _ _ _ => False)
      (OwnFrom.and (Own.from (fun s A B row hs hg hr => ⟨cell_kept hs.1 hg hr, (frozen_kept hs.1 hg hr).trans hs.2⟩) _) (ownFrom_below (Nat.le_refl _) (by simp; omega)))
      (fun _ _ _ _ _ hs _ _ => hs)
      ⟨⟨by simp, f3⟩, hB4⟩
      (fun x => { tmps := #[.slice a l.length c, undef, .int .i64 0, .pointer (some ⟨w3.heap.size, 0, none⟩), .slice a l.length c, .bool true, .bool false, .slice a l.length c, .func (.func 53) #[] #[.pointer (some ⟨w3.heap.size + 1, 0, none⟩)], .int .i64 x, undef, undef, undef], defers := [] }) ?assign ?body ?done ?stop
    case assign =>
      intro l x W K hK
      gi_wp2
      simpa using hK
    case body =>
      rintro l pre x W ⟨⟨hc, hf⟩, hB⟩ hlt
      have hb : (pre.length : Int) < 1000 := by omega
      gi_wp2
      refine ⟨KeepsOthers.setCell _ _ _, kb_set _ _ _, ⟨?_, by rw [World.frozen?_setCell]; exact hf⟩, hB.setCell (p := ⟨w3.heap.size, 0, none⟩) hs3 _⟩
      rw [List.length_append]
      exact World.cell?_setCell_same' _ _ _ (by rw [hc]; rfl)
    case done =>
      rintro D ys W hD rfl ⟨⟨hc, _⟩, hB⟩ hK
      have hcnt := renum_len (Int.le_refl 0) HVF.out
      rw [hcnt] at hc
      gi_wp2
      refine ⟨by simp, .inl ⟨_, _, rfl, run_takeDeferred hK, ?_⟩⟩
      exact ⟨_, results_tmp rfl _ _ _, by rw [HX.out]; rfl, hB.trans (belowK_b (w := w) (Nat.le_refl _) W D _ _ (by simp at hD; omega) hK rfl rfl)⟩
    case stop =>
      rintro D c pre W _ _ h _
      exact h.elim

end Go.Proofs.Ytcjhbcibhcogjab
