/- What laws share: sameRegisters. -/
import Derived.Test.YtjabejljgoafiaaSameReg
import Derived.Test.YtjabejljgoafiaaSvV
import Derived.Test.YtjabejljgoafiaaUpq
namespace Go.Proofs.Ytjabejljgoafiaa
open Go.RowKit
set_option linter.unusedVariables false
set_option linter.unusedSimpArgs false

theorem regs_ext {l m : List Reg} (h : l.length = m.length) (hh : ∀ i, i < l.length → l.getD i rgD = m.getD i rgD) : l = m := by
  refine List.ext_getElem h fun i h1 h2 => ?_
  have := hh i h1
  rwa [List.getD_eq_getElem?_getD, List.getD_eq_getElem?_getD, List.getElem?_eq_getElem h1, List.getElem?_eq_getElem h2] at this
set_option maxRecDepth 100000 in
set_option maxHeartbeats 4000000 in
theorem samergs_any (u v : Value) (l1 l2 : List Reg) (w : World) (h1 : Rgs False w u l1) (h2 : Rgs False w v l2) (hl : l1.length ≤ 1048576) (hlen : ∀ r ∈ l1, r.2.length ≤ 1048576) :
    Calls Try.prog 30 #[u, v] w (BoolB w (decide (l1 = l2))) := by
  obtain ⟨a1, c1, rfl, _, h1⟩ := h1
  obtain ⟨a2, c2, rfl, _, h2⟩ := h2
  have H1 := Lib.hid h1
  have H2 := Lib.hid h2
  have HLN := Lib.hid hlen
  clear h1 h2 hlen
  go_enter Try.func30, Try.ntmps30
  by_cases hll : l1.length = l2.length
  · have HLL := Lib.hid hll
    have hb1 : ((l1.length : Int) != (l2.length : Int)) = false := by rw [bne_eq_false_iff_eq]; omega
    clear hll
    go_wp2_with fail
    go_loopw [5] (fun iv wr => ∃ j : Nat, j ≤ l1.length ∧ iv = .int .i64 (j : Int) ∧ Hid (∀ i, i < j → l1.getD i rgD = l2.getD i rgD) ∧ Hid (Below w.heap.size w wr)) (fun iv _ => l1.length - (intOf iv).toNat)
    case atStart => exact ⟨0, Nat.zero_le _, rfl, Lib.hid (fun i hi => by omega), Lib.hid (Below.refl _ _)⟩
    case round =>
      obtain ⟨j, hj, rfl, HS, HB⟩ := hrel
      by_cases hlt : j < l1.length
      · have hlt' : (j : Int) < (l1.length : Int) := by omega
        have hlt2 : (j : Int) < (l2.length : Int) := by have := HLL.out; omega
        obtain ⟨g, o, rfl, hc⟩ := H1.out (by rintro rfl; simp at hlt)
        obtain ⟨g', o', rfl, hc'⟩ := H2.out (by rintro rfl; have := HLL.out; simp at this; rw [this] at hlt; simp at hlt)
        obtain ⟨s1, hr1⟩ := hc j hlt
        obtain ⟨s2, hr2⟩ := hc' j (by omega)
        have hr1 := hr1.below HB.out
        have hr2 := hr2.below HB.out
        have hbd := HLN.out _ (takeRg l1 j hlt).2
        clear hc hc'
        have HNO : Hid (l1.getD j rgD ≠ l2.getD j rgD → l1 ≠ l2) := Lib.hid fun h e => h (by rw [e])
        have HST : Hid (l1.getD j rgD = l2.getD j rgD → ∀ i, i < j + 1 → l1.getD i rgD = l2.getD i rgD) := Lib.hid fun h i hi => by
          by_cases hij : i = j
          · subst hij; exact h
          · exact HS.out i (by omega)
        obtain ⟨r1, hq1⟩ : ∃ r1, l1.getD j rgD = r1 := ⟨_, rfl⟩
        obtain ⟨r2, hq2⟩ : ∃ r2, l2.getD j rgD = r2 := ⟨_, rfl⟩
        rw [hq1] at hr1 hbd HNO HST
        rw [hq2] at hr2 HNO HST
        clear hq1 hq2
        obtain ⟨n1, m1⟩ := r1
        obtain ⟨n2, m2⟩ := r2
        obtain ⟨d0, d1, t1, _⟩ := hr1
        obtain ⟨e0, e1, t2, _⟩ := hr2
        simp only at d0 d1 e0 e1 hbd t1 t2
        obtain ⟨x1, y1, rfl⟩ : ∃ av cv, s1 = .slice av m1.length cv := by obtain ⟨_, _, av, cv, e, _⟩ := t1; exact ⟨av, cv, e⟩
        obtain ⟨x2, y2, rfl⟩ : ∃ av cv, s2 = .slice av m2.length cv := by obtain ⟨_, _, av, cv, e, _⟩ := t2; exact ⟨av, cv, e⟩
        have T1 := Lib.hid t1
        have T2 := Lib.hid t2
        obtain ⟨q, hq⟩ : ∃ q, decide ((n1, m1) = (n2, m2)) = q := ⟨_, rfl⟩
        have CS : Hid (∀ m : Up wr, Calls Try.prog 18 #[.agg #[.int .i64 n1, .slice x1 m1.length y1], .agg #[.int .i64 n2, .slice x2 m2.length y2]] m.w fun e w' => e = .returned (.bool q) ∧ ∃ m' : Up wr, w' = m'.w) := Lib.hid (by
          rw [← hq]
          exact up_call (fun W hb => samereg_any n1 n2 _ _ m1 m2 W ((T1.out.below hb).1) ((T2.out.below hb).1) hbd))
        have HQ := Lib.hid hq
        have k0 := Up.cell d0
        have k1 := Up.cell d1
        have k2 := Up.cell e0
        have k3 := Up.cell e1
        clear d0 d1 e0 e1 t1 t2 hq
        go_upto_region 6 with fail
        refine up_region wr (Below.refl _ _) (by kernel_rfl) (by kernel_rfl) ?_
        repeat (go_big_quiet_step ((go_at_call 18; exact CS.out _)))
        refine wpQuiet_nil ?_
        rintro _ ⟨⟨W2, hb2⟩, rfl⟩
        have B2 := Lib.hid (HB.out.trans (hb2.mono HB.out.size))
        clear k0 k1 k2 k3 hb2
        cases q
        · have HR : Hid (decide (l1 = l2) = false) := Lib.hid (decide_eq_false (HNO.out (fun e => by have := HQ.out; rw [decide_eq_true e] at this; cases this)))
          go_wp2_with fail
          go_ret
          rw [HR.out]
          exact ⟨rfl, B2.out⟩
        · have HS2 := Lib.hid (HST.out (of_decide_eq_true HQ.out))
          go_wp2_with fail
          go_roundw
          case rel => exact ⟨j + 1, by omega, by go_num, HS2, B2⟩
          case measure => simp [intOf]; omega
      · have hlt' : ¬ (j : Int) < (l1.length : Int) := by omega
        have hjl : j = l1.length := by omega
        subst hjl
        have HR : Hid (decide (l1 = l2) = true) := Lib.hid (decide_eq_true (regs_ext HLL.out HS.out))
        go_wp2_with fail
        go_ret
        rw [HR.out]
        exact ⟨rfl, HB.out⟩
  · have hb1 : ((l1.length : Int) != (l2.length : Int)) = true := by rw [bne_iff_ne]; omega
    have HR : Hid (decide (l1 = l2) = false) := Lib.hid (decide_eq_false (fun e => hll (by rw [e])))
    clear hll
    go_wp2_with fail
    go_ret
    rw [HR.out]
    exact ⟨rfl, Below.refl _ _⟩

end Go.Proofs.Ytjabejljgoafiaa
