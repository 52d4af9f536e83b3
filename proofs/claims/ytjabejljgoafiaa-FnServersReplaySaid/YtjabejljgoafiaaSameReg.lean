/- What laws share: sameRegister. -/
import Derived.Test.YtjabejljgoafiaaSRv
import Derived.Deep.DeepCutAuto
import Derived.Deep.CutBlock
namespace Go.Proofs.Ytjabejljgoafiaa
open Go.RowKit
set_option linter.unusedVariables false
set_option linter.unusedSimpArgs false

theorem list_eq_getD {l m : List Tic} (h : l.length = m.length) (hh : ∀ i, i < l.length → l.getD i (0, 0) = m.getD i (0, 0)) : l = m := by
  refine List.ext_getElem h fun i h1 h2 => ?_
  have := hh i h1
  rwa [List.getD_eq_getElem?_getD, List.getD_eq_getElem?_getD, List.getElem?_eq_getElem h1, List.getElem?_eq_getElem h2] at this
set_option maxRecDepth 100000 in
set_option maxHeartbeats 4000000 in
theorem samereg_any (n m : Int) (u v : Value) (l1 l2 : List Tic) (w : World) (h1 : Tics w u l1) (h2 : Tics w v l2) (hl : l1.length ≤ 1048576) :
    Calls Try.prog 18 #[.agg #[.int .i64 n, u], .agg #[.int .i64 m, v]] w (BoolB w (decide ((n, l1) = (m, l2)))) := by
  obtain ⟨a1, c1, rfl, h1⟩ := h1
  obtain ⟨a2, c2, rfl, h2⟩ := h2
  have H1 := Lib.hid h1
  have H2 := Lib.hid h2
  clear h1 h2
  have e1 : (w.alloc (.cells #[.int .i64 n, .slice a1 l1.length c1] 25)).heap.size = w.heap.size + 1 := by simp
  have B0 : Hid (Below w.heap.size w ((w.alloc (.cells #[.int .i64 n, .slice a1 l1.length c1] 25)).alloc (.cells #[.int .i64 m, .slice a2 l2.length c2] 25))) := Lib.hid (((Below.refl _ _).alloc (Nat.le_refl _) _).alloc (by simp) _)
  have R1 := Lib.hid ((RgV.new w n (.slice a1 l1.length c1) 25).below ((Below.refl _ _).alloc (Nat.le_refl _) (.cells #[.int .i64 m, .slice a2 l2.length c2] 25)))
  have R2 := Lib.hid (RgV.new (w.alloc (.cells #[.int .i64 n, .slice a1 l1.length c1] 25)) m (.slice a2 l2.length c2) 25)
  rw [e1] at R2
  clear e1
  go_enter Try.func18, Try.ntmps18
  go_upto_region 1 with fail
  generalize ((w.alloc (.cells #[.int .i64 n, .slice a1 l1.length c1] 25)).alloc (.cells #[.int .i64 m, .slice a2 l2.length c2] 25)) = W0 at B0 R1 R2 ⊢
  generalize w.heap.size + 1 = p2 at R2 ⊢
  obtain ⟨q0, q1⟩ := R1.out
  obtain ⟨r0, r1⟩ := R2.out
  by_cases hnm : n = m
  · subst hnm
    by_cases hll : l1.length = l2.length
    · have HLL := Lib.hid hll
      have hb1 : ((l1.length : Int) != (l2.length : Int)) = false := by rw [bne_eq_false_iff_eq]; omega
      clear hll
      go_wp2_with fail
      clear q0 q1 r0 r1
      go_loopw [5] (fun iv wr => ∃ j : Nat, j ≤ l1.length ∧ iv = .int .i64 (j : Int) ∧ Hid (∀ i, i < j → l1.getD i (0, 0) = l2.getD i (0, 0)) ∧ Hid (Below w.heap.size w wr) ∧ Hid (RgV wr w.heap.size n (.slice a1 l1.length c1)) ∧ Hid (RgV wr p2 n (.slice a2 l2.length c2))) (fun iv _ => l1.length - (intOf iv).toNat)
      case atStart => exact ⟨0, Nat.zero_le _, rfl, Lib.hid (fun i hi => by omega), B0, R1, R2⟩
      case round =>
        obtain ⟨j, hj, rfl, HS, HB, HR1, HR2⟩ := hrel
        obtain ⟨q0, q1⟩ := HR1.out
        obtain ⟨r0, r1⟩ := HR2.out
        by_cases hlt : j < l1.length
        · have hlt' : (j : Int) < (l1.length : Int) := by omega
          have hlt2 : (j : Int) < (l2.length : Int) := by have := HLL.out; omega
          obtain ⟨g, o, rfl, hc⟩ := H1.out (by rintro rfl; simp at hlt)
          obtain ⟨g', o', rfl, hc'⟩ := H2.out (by rintro rfl; have := HLL.out; simp at this; rw [this] at hlt; simp at hlt)
          obtain ⟨d0, d1⟩ := hc j hlt
          obtain ⟨d2, d3⟩ := hc' j (by omega)
          have e0 := (HB.out.cell (p := ⟨g, o + j * 2, none⟩) (World.block_lt_of_cell? w _ d0)).trans d0
          have e1 := (HB.out.cell (p := ⟨g, o + j * 2 + 1, none⟩) (World.block_lt_of_cell? w _ d1)).trans d1
          have e2 := (HB.out.cell (p := ⟨g', o' + j * 2, none⟩) (World.block_lt_of_cell? w _ d2)).trans d2
          have e3 := (HB.out.cell (p := ⟨g', o' + j * 2 + 1, none⟩) (World.block_lt_of_cell? w _ d3)).trans d3
          clear d0 d1 d2 d3 hc hc'
          have HNO : Hid (l1.getD j (0, 0) ≠ l2.getD j (0, 0) → (n, l1) ≠ (n, l2)) := Lib.hid fun h e => h (by rw [(Prod.mk.inj e).2])
          have HST : Hid (l1.getD j (0, 0) = l2.getD j (0, 0) → ∀ i, i < j + 1 → l1.getD i (0, 0) = l2.getD i (0, 0)) := Lib.hid fun h i hi => by
            by_cases hij : i = j
            · subst hij; exact h
            · exact HS.out i (by omega)
          generalize l1.getD j (0, 0) = t1 at *
          generalize l2.getD j (0, 0) = t2 at *
          obtain ⟨x1, y1⟩ := t1
          obtain ⟨x2, y2⟩ := t2
          obtain ⟨b1, hb1⟩ : ∃ b, (x1 == x2) = b := ⟨_, rfl⟩
          obtain ⟨b2, hb2⟩ : ∃ b, (y1 == y2) = b := ⟨_, rfl⟩
          have HBQ := Lib.hid (And.intro hb1 hb2)
          cases b1 <;> cases b2
          all_goals
            go_wp2_with fail
            go_quiet (fail)
            have HB2 := Lib.hid (below_drewN' HB.out nq)
            have HR3 := Lib.hid (HR1.out.below (below_drewN' (Below.refl _ _) nq))
            have HR4 := Lib.hid (HR2.out.below (below_drewN' (Below.refl _ _) nq))
            go_wp2_with fail
          all_goals first
            | (go_roundw
               case rel => exact ⟨j + 1, by omega, by go_num, Lib.hid (HST.out (by have h1 := HBQ.out.1; have h2 := HBQ.out.2; rw [beq_iff_eq] at h1 h2; rw [h1, h2])), HB2, HR3, HR4⟩
               case measure => simp [intOf]; omega)
            | (go_ret
               exact ⟨ret_bool (decide_eq_false (HNO.out (fun e => by have h1 := HBQ.out.1; have h2 := HBQ.out.2; rw [(Prod.mk.inj e).1] at h1; rw [(Prod.mk.inj e).2] at h2; simp at h1 h2))).symm, HB2.out⟩)
        · have hlt' : ¬ (j : Int) < (l1.length : Int) := by omega
          have HYES : Hid ((n, l1) = (n, l2)) := Lib.hid (by rw [list_eq_getD HLL.out (fun i hi => HS.out i (by omega))])
          go_wp2_with fail
          go_ret
          exact ⟨ret_bool (by simp [(Prod.mk.inj HYES.out).2]), HB.out⟩
    · have hb1 : ((l1.length : Int) != (l2.length : Int)) = true := by rw [bne_iff_ne]; omega
      have HNO : Hid ((n, l1) ≠ (n, l2)) := Lib.hid fun e => hll (by rw [(Prod.mk.inj e).2])
      clear hll
      go_wp2_with fail
      go_ret
      exact ⟨ret_bool (decide_eq_false HNO.out).symm, B0.out⟩
  · have hb1 : (n != m) = true := by rw [bne_iff_ne]; exact hnm
    have HNO : Hid ((n, l1) ≠ (m, l2)) := Lib.hid fun e => hnm (Prod.mk.inj e).1
    clear hnm
    go_wp2_with fail
    go_ret
    exact ⟨ret_bool (decide_eq_false HNO.out).symm, B0.out⟩

end Go.Proofs.Ytjabejljgoafiaa
