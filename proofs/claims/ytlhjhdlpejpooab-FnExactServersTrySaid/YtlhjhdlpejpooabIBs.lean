/- slices.BinarySearchFunc at tickets. -/
import Derived.Test.YtlhjhdlpejpooabIRv
import Derived.Test.YtlhjhdlpejpooabBsMath
namespace Go.Proofs.Ytlhjhdlpejpooab
open Go.RowKit
set_option linter.unusedVariables false
set_option linter.unusedSimpArgs false

def Found (w : World) (l : List Tic) (t : Tic) (e : Ending) (w' : World) : Prop :=
  ∃ (p : Nat) (q : Bool), e = .returned (.tuple #[.int .i64 (p : Int), .bool q]) ∧ BsI l t p p ∧ q = decide (t ∈ l) ∧ Below w.heap.size w w'
set_option maxRecDepth 100000 in
set_option maxHeartbeats 4000000 in
theorem bsearch_any (v : Value) (l : List Tic) (x y : Int) (w : World) (hs : Tics w v l) (hl : l.length ≤ 1048576) (hp : l.Pairwise TL) :
    Calls Try.prog 54 #[v, .agg #[.int .i64 x, .int .i64 y], .func (.func 46) #[] #[]] w (Found w l (x, y)) := by
  obtain ⟨a, c, rfl, hs⟩ := hs
  have HC := Lib.hid hs
  have HP := Lib.hid hp
  clear hs hp
  have R0 := Lib.hid (RgV.new w x (.int .i64 y) 38)
  have B0 := Lib.hid ((Below.refl w.heap.size w).alloc (Nat.le_refl _) (.cells #[.int .i64 x, .int .i64 y] 38))
  go_enter Try.func54, Try.ntmps54
  go_wp2_with fail
  obtain ⟨W0, hW0⟩ : ∃ W0, W0 = w.alloc (.cells #[.int .i64 x, .int .i64 y] 38) := ⟨_, rfl⟩
  rw [← hW0] at R0 B0 ⊢
  clear hW0
  go_loopw [9, 10] (fun iv jv wr => ∃ i j : Nat, iv = .int .i64 (i : Int) ∧ jv = .int .i64 (j : Int) ∧ i ≤ j ∧ j ≤ l.length ∧ Hid (BsI l (x, y) i j) ∧ Hid (Below w.heap.size w wr) ∧ Hid (RgV wr w.heap.size x (.int .i64 y))) (fun iv jv _ => (intOf jv).toNat - (intOf iv).toNat)
  case atStart => exact ⟨0, l.length, rfl, rfl, Nat.zero_le _, Nat.le_refl _, Lib.hid (BsI.start _ _), B0, R0⟩
  case round =>
    obtain ⟨i, j, rfl, rfl, hij, hjl, HS, HB, HR⟩ := hrel
    by_cases hlt : i < j
    · have hlt' : (i : Int) < (j : Int) := by omega
      obtain ⟨h, hh⟩ : ∃ h : Nat, h = (i + j) / 2 := ⟨_, rfl⟩
      have hw1 : IntKind.i64.wrap ((i : Int) + (j : Int)) = (i : Int) + (j : Int) := IntWalk.i64_in _ (by omega)
      have hq : ((i : Int) + (j : Int)) / 2 = (h : Int) := by omega
      have hih : i ≤ h := by omega
      have hhj : h < j := by omega
      have hhl : (h : Int) < (l.length : Int) := by omega
      have hw4 : IntKind.i64.wrap ((h : Int) + 1) = (h : Int) + 1 := IntWalk.i64_in _ (by omega)
      clear hh
      obtain ⟨g, o, rfl, hc⟩ := HC.out (by rintro rfl; simp at hjl; omega)
      obtain ⟨d0, d1⟩ := hc h (by omega)
      have hg := World.block_lt_of_cell? w _ d0
      have e0 := Up.cell ((HB.out.cell (p := ⟨g, o + h * 2, none⟩) hg).trans d0)
      have e1 := Up.cell ((HB.out.cell (p := ⟨g, o + h * 2 + 1, none⟩) hg).trans d1)
      clear d0 d1 hc hg
      have HR1 := Lib.hid (fun hc => HS.out.right (h := h) HP.out hih hhj hc)
      have HL1 := Lib.hid (fun hc => HS.out.left (h := h) HP.out hih hhj hc)
      generalize l.getD h (0, 0) = t at e0 e1 HR1 HL1
      obtain ⟨tx, ty⟩ := t
      have u0 := Up.cell HR.out.c0
      have u1 := Up.cell HR.out.c1
      have C3 := Lib.hid (fun W : World => cmpt_below (tx, ty) (x, y) W)
      by_cases k3 : TL (tx, ty) (x, y)
      · have HS2 := Lib.hid (HR1.out k3)
        have hneg : cmpT (tx, ty) (x, y) < 0 := (cmpT_neg (tx, ty) (x, y)).2 k3
        generalize cmpT (tx, ty) (x, y) = cv at C3 hneg
        have hdn : decide (cv < 0) = true := decide_eq_true hneg
        have D3 : Hid (∀ m : Up wr, Calls Try.prog 46 #[.agg #[.int .i64 tx, .int .i64 ty], .agg #[.int .i64 x, .int .i64 y]] m.w fun e w' => e = .returned (.int .i64 cv) ∧ ∃ m' : Up wr, w' = m'.w) := Lib.hid (up_call fun W _ => C3.out W)
        clear k3 hij hjl
        go_wp2_with fail
        refine up_region wr (Below.refl _ _) (by kernel_rfl) (by kernel_rfl) ?_
        repeat (go_big_quiet_step ((go_at_call 46; exact D3.out _)))
        refine wpQuiet_nil ?_
        rintro _ ⟨⟨W2, hb2⟩, rfl⟩
        have B2 := Lib.hid (HB.out.trans (hb2.mono HB.out.size))
        have HR2 := Lib.hid (HR.out.below hb2)
        have HS3 := HS2.out.ij
        have HS4 := HS2.out.jl
        go_wp2_with fail
        go_roundw
        case rel => exact ⟨h + 1, j, by go_num, rfl, HS3, HS4, HS2, B2, HR2⟩
        case measure => simp [intOf]; omega
      · have HS2 := Lib.hid (HL1.out k3)
        have hneg : ¬ cmpT (tx, ty) (x, y) < 0 := fun q => k3 ((cmpT_neg (tx, ty) (x, y)).1 q)
        generalize cmpT (tx, ty) (x, y) = cv at C3 hneg
        have hdn : decide (cv < 0) = false := decide_eq_false hneg
        have D3 : Hid (∀ m : Up wr, Calls Try.prog 46 #[.agg #[.int .i64 tx, .int .i64 ty], .agg #[.int .i64 x, .int .i64 y]] m.w fun e w' => e = .returned (.int .i64 cv) ∧ ∃ m' : Up wr, w' = m'.w) := Lib.hid (up_call fun W _ => C3.out W)
        clear k3 hij hjl
        go_wp2_with fail
        refine up_region wr (Below.refl _ _) (by kernel_rfl) (by kernel_rfl) ?_
        repeat (go_big_quiet_step ((go_at_call 46; exact D3.out _)))
        refine wpQuiet_nil ?_
        rintro _ ⟨⟨W2, hb2⟩, rfl⟩
        have B2 := Lib.hid (HB.out.trans (hb2.mono HB.out.size))
        have HR2 := Lib.hid (HR.out.below hb2)
        have HS3 := HS2.out.ij
        have HS4 := HS2.out.jl
        go_wp2_with fail
        go_roundw
        case rel => exact ⟨i, h, rfl, rfl, HS3, HS4, HS2, B2, HR2⟩
        case measure => simp [intOf]; omega
    · have hlt' : ¬ (i : Int) < (j : Int) := by omega
      have hji : j = i := by omega
      subst hji
      have HD := Lib.hid (HS.out.done HP.out)
      have u0 := Up.cell HR.out.c0
      have u1 := Up.cell HR.out.c1
      clear hij hlt
      by_cases hil : j < l.length
      · have hil' : (j : Int) < (l.length : Int) := by omega
        have hdl : decide ((j : Int) < (l.length : Int)) = true := decide_eq_true hil'
        have hdl2 : decide (j < l.length) = true := decide_eq_true hil
        obtain ⟨g, o, rfl, hc⟩ := HC.out (by rintro rfl; simp at hil)
        obtain ⟨d0, d1⟩ := hc j hil
        have hg := World.block_lt_of_cell? w _ d0
        have e0 := Up.cell ((HB.out.cell (p := ⟨g, o + j * 2, none⟩) hg).trans d0)
        have e1 := Up.cell ((HB.out.cell (p := ⟨g, o + j * 2 + 1, none⟩) hg).trans d1)
        clear d0 d1 hc hg
        have HE : Hid ((x, y) ∈ l ↔ l.getD j (0, 0) = (x, y)) := Lib.hid ⟨fun h => (HD.out.1.1 h).2, fun h => HD.out.1.2 ⟨hil, h⟩⟩
        generalize l.getD j (0, 0) = t at e0 e1 HE
        obtain ⟨tx, ty⟩ := t
        have C3 := Lib.hid (fun W : World => cmpt_below (tx, ty) (x, y) W)
        have HZ := Lib.hid (cmpT_zero (tx, ty) (x, y))
        obtain ⟨q, hq⟩ : ∃ q, (cmpT (tx, ty) (x, y) == 0) = q := ⟨_, rfl⟩
        have HQ : Hid (q = decide ((x, y) ∈ l)) := Lib.hid (by
          rw [← hq, Bool.eq_iff_iff, beq_iff_eq, decide_eq_true_eq]
          exact HZ.out.trans HE.out.symm)
        clear HZ HE
        generalize cmpT (tx, ty) (x, y) = cv at C3 hq
        have D3 : Hid (∀ m : Up wr, Calls Try.prog 46 #[.agg #[.int .i64 tx, .int .i64 ty], .agg #[.int .i64 x, .int .i64 y]] m.w fun e w' => e = .returned (.int .i64 cv) ∧ ∃ m' : Up wr, w' = m'.w) := Lib.hid (up_call fun W _ => C3.out W)
        go_wp2_with fail
        refine up_region wr (Below.refl _ _) (by kernel_rfl) (by kernel_rfl) ?_
        repeat (go_big_quiet_step ((go_at_call 46; exact D3.out _)))
        refine wpQuiet_nil ?_
        rintro _ ⟨⟨W2, hb2⟩, rfl⟩
        have B2 := Lib.hid (HB.out.trans (hb2.mono HB.out.size))
        go_wp2_with fail
        go_ret2
        exact ⟨j, q, rfl, HS.out, HQ.out, B2.out⟩
      · have hil' : ¬ (j : Int) < (l.length : Int) := by omega
        have hdl : decide ((j : Int) < (l.length : Int)) = false := decide_eq_false hil'
        have hdl2 : decide (j < l.length) = false := decide_eq_false hil
        have HQ : Hid (false = decide ((x, y) ∈ l)) := Lib.hid (decide_eq_false fun h => hil (HD.out.1.1 h).1).symm
        go_wp2_with fail
        refine up_region wr (Below.refl _ _) (by kernel_rfl) (by kernel_rfl) ?_
        repeat (go_big_quiet_step (fail))
        refine wpQuiet_nil ?_
        rintro _ ⟨⟨W2, hb2⟩, rfl⟩
        have B2 := Lib.hid (HB.out.trans (hb2.mono HB.out.size))
        go_wp2_with fail
        go_ret2
        exact ⟨j, false, rfl, HS.out, HQ.out, B2.out⟩

end Go.Proofs.Ytlhjhdlpejpooab
