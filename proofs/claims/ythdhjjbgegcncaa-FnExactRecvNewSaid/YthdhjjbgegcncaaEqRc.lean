/- eqPiece, eqPieceS, eqRecv, on one value twice. -/
import Derived.Test.YthdhjjbgegcncaaPcn
import Derived.Test.YthdhjjbgegcncaaRcH
import Derived.Deep.RegionHeld3
namespace Go.Proofs.Ythdhjjbgegcncaa
open Go.RowKit
set_option linter.unusedVariables false
set_option linter.unusedSimpArgs false

set_option maxRecDepth 100000 in
set_option maxHeartbeats 1000000 in
theorem eqpc_any (x : Int) (d : ByteArray) (w : World) : Calls Try.prog 49 #[.agg #[.int .i64 x, .string d], .agg #[.int .i64 x, .string d]] w fun e w' => e = .returned (.bool true) ∧ Below w.heap.size w w' := by
  have n1 : (x != x) = false := by simp
  have HB := Lib.hid (show Below w.heap.size w ((w.alloc (.cells #[.int .i64 x, .string d] 51)).alloc (.cells #[.int .i64 x, .string d] 51)) from ((Below.refl _ w).alloc (Nat.le_refl _) _).alloc (by simp) _)
  go_enter Try.func49, Try.ntmps49
  go_wp2_with fail
  go_ret
  exact ⟨rfl, HB.out⟩
set_option maxRecDepth 100000 in
set_option maxHeartbeats 2000000 in
theorem eqpcs_any (v v' : Value) (l : List Pc) (w : World) (h : Pcn w v l) (h' : Pcn w v' l) (hl : l.length ≤ 1048576) :
    Calls Try.prog 31 #[v, v'] w fun e w' => e = .returned (.bool true) ∧ Below w.heap.size w w' := by
  obtain ⟨a, c, rfl, h⟩ := h
  obtain ⟨a', c', rfl, h'⟩ := h'
  have HC := Lib.hid h
  have HC' := Lib.hid h'
  have hll : ((l.length : Int) != (l.length : Int)) = false := by simp
  clear h h'
  go_enter Try.func31, Try.ntmps31
  go_wp2_with fail
  go_loopw [5] (fun iv wr => ∃ j : Nat, j ≤ l.length ∧ iv = .int .i64 (j : Int) ∧ Hid (Below w.heap.size w wr)) (fun iv _ => l.length - (intOf iv).toNat)
  case atStart => exact ⟨0, Nat.zero_le _, rfl, Below.refl _ _⟩
  case round =>
    obtain ⟨j, hj, rfl, HB⟩ := hrel
    by_cases hlt : j < l.length
    · have hlt' : (j : Int) < (l.length : Int) := by omega
      obtain ⟨g, o, rfl, hc⟩ := HC.out (by rintro rfl; simp at hlt)
      obtain ⟨g', o', rfl, hc'⟩ := HC'.out (by rintro rfl; simp at hlt)
      obtain ⟨c0, c1⟩ := hc j hlt
      obtain ⟨d0, d1⟩ := hc' j hlt
      have c0 := (HB.out.cell (World.block_lt_of_cell? w _ c0)).trans c0
      have c1 := (HB.out.cell (World.block_lt_of_cell? w _ c1)).trans c1
      have d0 := (HB.out.cell (World.block_lt_of_cell? w _ d0)).trans d0
      have d1 := (HB.out.cell (World.block_lt_of_cell? w _ d1)).trans d1
      clear hc hc'
      generalize l.getD j pc0 = p at *
      obtain ⟨x, d⟩ := p
      simp only at c0 c1 d0 d1
      have hlg : g < wr.heap.size := World.block_lt_of_cell? wr _ c0
      have hlg' : g' < wr.heap.size := World.block_lt_of_cell? wr _ d0
      have kS : wr.cell? ⟨g, o + j * 2, none⟩ = some (.int .i64 x) ∧ wr.cell? ⟨g, o + j * 2 + 1, none⟩ = some (.string d) ∧ wr.cell? ⟨g', o' + j * 2, none⟩ = some (.int .i64 x) ∧ wr.cell? ⟨g', o' + j * 2 + 1, none⟩ = some (.string d) := ⟨c0, c1, d0, d1⟩
      go_wp2_with fail
      go_region_held3 (fun w' => w'.cell? ⟨g, o + j * 2, none⟩ = some (.int .i64 x) ∧ w'.cell? ⟨g, o + j * 2 + 1, none⟩ = some (.string d) ∧ w'.cell? ⟨g', o' + j * 2, none⟩ = some (.int .i64 x) ∧ w'.cell? ⟨g', o' + j * 2 + 1, none⟩ = some (.string d)) (first | assumption | exact kS | exact kS1)
        (first
          | (go_at_call 49; refine (eqpc_any _ _ _).mono ?_; rintro e w1 ⟨rfl, hb0⟩; have hb1 : Below wr.heap.size wr w1 := (by first | exact hb0 | exact (Below.refl _ _).drew.trans hb0 | exact (Below.refl _ _).drew.drew.trans hb0); have kS1 : w1.cell? ⟨g, o + j * 2, none⟩ = some (.int .i64 x) ∧ w1.cell? ⟨g, o + j * 2 + 1, none⟩ = some (.string d) ∧ w1.cell? ⟨g', o' + j * 2, none⟩ = some (.int .i64 x) ∧ w1.cell? ⟨g', o' + j * 2 + 1, none⟩ = some (.string d) := ⟨(hb1.cell (p := ⟨g, o + j * 2, none⟩) hlg).trans c0, (hb1.cell (p := ⟨g, o + j * 2 + 1, none⟩) hlg).trans c1, (hb1.cell (p := ⟨g', o' + j * 2, none⟩) hlg').trans d0, (hb1.cell (p := ⟨g', o' + j * 2 + 1, none⟩) hlg').trans d1⟩))
      have HB1 := Lib.hid (HB.out.trans (hb1.mono HB.out.size))
      go_wp2_with fail
      go_roundw
      case rel => exact ⟨j + 1, by omega, by go_num, HB1⟩
      case measure => simp [intOf]; omega
    · have hlt' : ¬ (j : Int) < (l.length : Int) := by omega
      go_wp2_with fail
      go_ret
      exact ⟨rfl, HB.out⟩
set_option maxRecDepth 100000 in
set_option maxHeartbeats 1000000 in
theorem eqrc_any (rd fi li : Int) (v v' : Value) (l : List Pc) (w : World) (h : Pcn w v l) (h' : Pcn w v' l) (hl : l.length ≤ 1048576) :
    Calls Try.prog 12 #[.agg #[.int .i64 rd, v, .int .i64 fi, .int .i64 li], .agg #[.int .i64 rd, v', .int .i64 fi, .int .i64 li]] w fun e w' => e = .returned (.bool true) ∧ Below w.heap.size w w' := by
  have BB : Hid (Below w.heap.size w ((w.alloc (.cells #[.int .i64 rd, v, .int .i64 fi, .int .i64 li] 24)).alloc (.cells #[.int .i64 rd, v', .int .i64 fi, .int .i64 li] 24))) := Lib.hid (((Below.refl w.heap.size w).alloc (Nat.le_refl _) _).alloc (by simp) _)
  have HE := Lib.hid (eqpcs_any v v' l _ (h.below BB.out) (h'.below BB.out) hl)
  have hr : (rd != rd) = false := by simp
  have hf : (fi != fi) = false := by simp
  have hi : (li != li) = false := by simp
  obtain ⟨a, c, rfl, _⟩ := h
  obtain ⟨a', c', rfl, _⟩ := h'
  have X1 := Lib.hid ((Frm.new w 24 [.int .i64 rd, .slice a l.length c, .int .i64 fi, .int .i64 li]).below ((Below.refl (w.heap.size + 1) _).alloc (by simp) (.cells #[.int .i64 rd, .slice a' l.length c', .int .i64 fi, .int .i64 li] 24)) (by omega))
  have X2 := Frm.new (w.alloc (.cells #[.int .i64 rd, .slice a l.length c, .int .i64 fi, .int .i64 li] 24)) 24 [.int .i64 rd, .slice a' l.length c', .int .i64 fi, .int .i64 li]
  rw [show (w.alloc (.cells #[.int .i64 rd, .slice a l.length c, .int .i64 fi, .int .i64 li] 24)).heap.size = w.heap.size + 1 by simp] at X2
  have X2 := Lib.hid X2
  go_enter Try.func12, Try.ntmps12
  go_wp2_with fail
  refine HE.out.mono ?_
  rintro e w1 ⟨rfl, hb⟩
  have HB := Lib.hid (BB.out.trans (hb.mono BB.out.size))
  have Y1 := X1.out.below hb (by simp; omega)
  have Y2 := X2.out.below hb (by simp)
  have y2 := Y1 2
  have y3 := Y1 3
  have z2 := Y2 2
  have z3 := Y2 3
  simp only [List.getElem?_cons_zero, List.getElem?_cons_succ] at y2 y3 z2 z3
  clear hb
  go_wp2_with fail
  go_ret
  exact ⟨rfl, HB.out⟩
end Go.Proofs.Ythdhjjbgegcncaa
