/- The program's RangesHas. -/
import Derived.Test.YtccolpaenmebeaaINums
import Derived.RangeFuncFrom
namespace Go.Proofs.Ytccolpaenmebeaa
open Go.RowKit Go.Shelf
set_option linter.unusedVariables false
set_option linter.unusedSimpArgs false
attribute [local go_sem] Oper.semAt_some

theorem box_new (W : World) (v : Value) (t : TypeId) : (W.alloc (.cells #[v] t)).cell? ⟨W.heap.size, 0, none⟩ = some v ∧ (W.alloc (.cells #[v] t)).frozen? ⟨W.heap.size, 0, none⟩ = false := by
  have h : (W.alloc (.cells #[v] t)).heap[W.heap.size]? = some (.cells #[v] t) := by show (W.heap.push _)[W.heap.size]? = _; simp
  exact ⟨by unfold World.cell?; rw [h]; simp, by unfold World.frozen?; rw [h]; simp⟩

theorem cell_alloc1 {W : World} {a : Addr} {v : Value} (o : Obj) (h : W.cell? a = some v) : (W.alloc o).cell? a = some v := cell_kept h (World.grownBy_alloc W o none) (fun r e => by cases e)
theorem frozen_alloc1 {W : World} {a : Addr} {v : Value} (o : Obj) (h : W.cell? a = some v) (hf : W.frozen? a = false) : (W.alloc o).frozen? a = false := (frozen_kept h (World.grownBy_alloc W o none) (fun r e => by cases e)).trans hf

set_option maxRecDepth 100000 in
set_option maxHeartbeats 2000000 in
theorem ihas_any (v : Value) (l : List (Int × Int)) (want : Int) (w : World) (h : Rngs w v l) (hlen : l.length ≤ 1048576) :
    Calls Try.prog 54 #[v, .int .i64 want] w fun e w' => e = .returned (.bool (rvalid l && rhas l want)) ∧ Below w.heap.size w w' := by
  obtain ⟨a, c, rfl, h1⟩ := id h
  have HR := Lib.hid h
  clear h1 h
  refine (callsIn_wide (n := 3)).1 ?_
  refine callsIn_of_wp_marks Try.func54 rfl trivial ?_ rfl
  simp only [Try.ntmps54, List.size_toArray, List.length_cons, List.length_nil, Nat.reduceAdd, Nat.reduceSub, Array.replicate_succ, Array.replicate_zero, List.push_toArray, List.append_toArray, List.nil_append, List.cons_append]
  have hB2 : Below w.heap.size w ((w.alloc (.cells #[.int .i64 want] 3)).alloc (.cells #[.bool false] 4)) := ((Below.refl _ w).alloc (Nat.le_refl _) _).alloc (by simp) _
  have hval := ivalid_any (.slice a l.length c) l _ (HR.out.below hB2) hlen
  have c0 := box_new w (.int .i64 want) 3
  have c1 := box_new (w.alloc (.cells #[.int .i64 want] 3)) (.bool false) 4
  simp only [World.size_alloc] at c1
  have HB2 := Lib.hid hB2
  have C0 := Lib.hid c0
  have C1 := Lib.hid c1
  clear c0 c1 hB2
  cases hv : rvalid l with
  | false =>
    rw [hv] at hval
    have HV := Lib.hid hval
    clear hval hv
    gi_wp2_with fail
    refine ⟨trivial, (callsIn_wide.2 HV.out).mono ?_⟩
    rintro e w3 ⟨rfl, hb3⟩
    have HB3 := Lib.hid (HB2.out.trans (hb3.mono HB2.out.size))
    have f1 := (hb3.cell (p := ⟨w.heap.size + 1, 0, none⟩) (by simp)).trans C1.out.1
    have f2 := (hb3.frozen (p := ⟨w.heap.size + 1, 0, none⟩) (by simp)).trans C1.out.2
    clear hb3
    gi_wp2_with fail
    have hc5 := World.cell?_setCell_same' w3 ⟨w.heap.size + 1, 0, none⟩ (.bool false) (by rw [f1]; rfl)
    refine ⟨.bool false, ?_, by simp, HB3.out.setCell (p := ⟨w.heap.size + 1, 0, none⟩) (by simp) _⟩
    simp [results, Try.f54, go_sem, hc5]
  | true =>
    rw [hv] at hval
    have HV := Lib.hid hval
    have HVF := Lib.hid (rvalid_parts hv).1
    clear hval hv
    gi_wp2_with fail
    refine ⟨trivial, (callsIn_wide.2 HV.out).mono ?_⟩
    rintro e w3 ⟨rfl, hb3⟩
    have HB3 := Lib.hid (HB2.out.trans (hb3.mono HB2.out.size))
    have g1 := Lib.hid ((hb3.cell (p := ⟨w.heap.size, 0, none⟩) (by simp; omega)).trans ((cell_alloc1 _ C0.out.1)))
    have f1 := Lib.hid ((hb3.cell (p := ⟨w.heap.size + 1, 0, none⟩) (by simp)).trans C1.out.1)
    have f2 := Lib.hid ((hb3.frozen (p := ⟨w.heap.size + 1, 0, none⟩) (by simp)).trans C1.out.2)
    have hs3 : w.heap.size + 2 ≤ w3.heap.size := by have := hb3.size; simp at this; omega
    clear hb3
    gi_wp2_with fail
    refine ⟨trivial, (nums_make Fence.wide _ trivial rfl a l.length c w3).mono ?_⟩
    rintro e w4 ⟨rfl, rfl⟩
    gi_wp2_with fail
    have hB4 : Below w.heap.size w (w3.alloc (.cells #[.slice a l.length c] 44)) := HB3.out.alloc HB3.out.size _
    have g1 := cell_alloc1 (.cells #[.slice a l.length c] 44) g1.out
    have f3 := frozen_alloc1 (.cells #[.slice a l.length c] 44) f1.out f2.out
    have f1 := cell_alloc1 (.cells #[.slice a l.length c] 44) f1.out
    have hbx := (box_new w3 (.slice a l.length c) 44).1
    have hRX : RX (fun _ => False) (w3.alloc (.cells #[.slice a l.length c] 44)) (.slice a l.length c) l := RX.of HR.out hB4 (fun _ h => h.elim)
    refine wpIn_rangeFunc_ownF rfl (by omega) (gf := 64) (lb := #[.pointer (some ⟨w3.heap.size, 0, none⟩)]) rfl trivial (enters_of Try.func64 (by kernel_rfl) rfl)
      (nums_stops Fence.wide _ trivial rfl (by omega) w3.heap.size (fun _ => False) (.slice a l.length c) l _ (fun _ h => h.elim) hlen hbx hRX HVF.out) kb_t kb_b (Below.refl _ _) (fun _ => rfl)
      (fun pre W => ((∀ y ∈ pre, y ≠ want) ∧ W.cell? ⟨w.heap.size, 0, none⟩ = some (.int .i64 want) ∧ W.cell? ⟨w.heap.size + 1, 0, none⟩ = some (.bool false) ∧ W.frozen? ⟨w.heap.size + 1, 0, none⟩ = false) ∧ Below w.heap.size w W)
      (fun c pre W => (c = .ret ∧ want ∈ pre ∧ W.cell? ⟨w.heap.size + 1, 0, none⟩ = some (.bool true)) ∧ Below w.heap.size w W)
      (OwnFrom.and (Own.from (fun s A B row hs hg hr => ⟨hs.1, cell_kept hs.2.1 hg hr, cell_kept hs.2.2.1 hg hr, (frozen_kept hs.2.2.1 hg hr).trans hs.2.2.2⟩) _) (ownFrom_below (Nat.le_refl _) (by simp; omega)))
      (fun c => OwnFrom.and (Own.from (fun s A B row hs hg hr => ⟨hs.1, hs.2.1, cell_kept hs.2.2 hg hr⟩) _) (ownFrom_below (Nat.le_refl _) (by simp; omega)))
      ⟨⟨by simp, g1, f1, f3⟩, hB4⟩
      (fun x => { tmps := #[.slice a l.length c, .int .i64 want, undef, .pointer (some ⟨w.heap.size, 0, none⟩), .pointer (some ⟨w.heap.size + 1, 0, none⟩), .int .i64 x, .slice a l.length c, .bool true, .bool false, .slice a l.length c, .func (.func 64) #[] #[.pointer (some ⟨w3.heap.size, 0, none⟩)], .int .i64 x, undef, undef, undef], defers := [] }) ?assign ?body ?done ?stop
    case assign =>
      intro l x W K hK
      gi_wp2
      exact hK
    case body =>
      rintro l pre x W ⟨⟨hp, hcw, hcr, hfr⟩, hB⟩ _
      gi_wp2
      · rename_i hx
        obtain rfl : x = want := eq_of_beq hx
        exact ⟨KeepsOthers.setCell _ _ _, ⟨rfl, List.mem_append.2 (.inr (by simp)), World.cell?_setCell_same' _ _ _ (by rw [hcr]; rfl)⟩, hB.setCell (p := ⟨w.heap.size + 1, 0, none⟩) (by simp) _⟩
      · rename_i hx
        exact ⟨KeepsOthers.refl _, kb_refl _ _, ⟨fun y hy => (List.mem_append.1 hy).elim (hp y) (fun e e' => by simp at e; subst e; subst e'; simp at hx), hcw, hcr, hfr⟩, hB⟩
    case done =>
      rintro D ys W hD rfl ⟨⟨hne, _, hcr, hfr⟩, hB⟩ hK
      have hno : rhas l want = false := by
        rw [Bool.eq_false_iff]
        intro hh
        exact hne want ((renum_mem l want).2 hh) rfl
      gi_wp2
      have hK' := (KeepsOthers.setCell W ⟨w.heap.size + 1, 0, none⟩ (.bool false)).same D _ hK rfl
      refine ⟨by simp, .inl ⟨_, _, rfl, run_takeDeferred hK', ?_⟩⟩
      have hc5 := cell_kept (World.cell?_setCell_same' W ⟨w.heap.size + 1, 0, none⟩ (.bool false) (by rw [hcr]; rfl)) (grownBy_putObj' _ D (.deferred none)) (fun r e => by cases e; exact ⟨_, hK', rfl⟩)
      refine ⟨.bool false, ?_, by rw [hno]; rfl, (hB.setCell (p := ⟨w.heap.size + 1, 0, none⟩) (by simp) _).trans (belowK_b (w := w) (Nat.le_refl _) _ D _ _ (by simp at hD; omega) hK' rfl rfl)⟩
      simp [results, Try.f54, go_sem, hc5]
    case stop =>
      rintro D c pre W hD hpre ⟨⟨rfl, hin, hcr⟩, hB⟩ hK
      have hyes : rhas l want = true := (renum_mem l want).1 (hpre.subset hin)
      gi_wp2
      refine ⟨by simp, .inl ⟨_, _, rfl, run_takeDeferred hK, ?_⟩⟩
      have hc5 := cell_kept hcr (grownBy_putObj' _ D (.deferred none)) (fun r e => by cases e; exact ⟨_, hK, rfl⟩)
      refine ⟨.bool true, ?_, by rw [hyes]; rfl, hB.trans (belowK_b (w := w) (Nat.le_refl _) W D _ _ (by simp at hD; omega) hK rfl rfl)⟩
      simp [results, Try.f54, go_sem, hc5]

end Go.Proofs.Ytccolpaenmebeaa
