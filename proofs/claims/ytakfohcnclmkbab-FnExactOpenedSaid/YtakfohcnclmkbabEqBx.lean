/- eqBox, eqBoxS. -/
import Derived.Test.YtakfohcnclmkbabEqInt
import Derived.Test.YtakfohcnclmkbabBxs
import Derived.Deep.RegionHeld3
namespace Go.Proofs.Ytakfohcnclmkbab
open Go.RowKit
set_option linter.unusedVariables false
set_option linter.unusedSimpArgs false

set_option maxRecDepth 100000 in
set_option maxHeartbeats 1000000 in
theorem eqbox_any (k : Int) (xs : List Int) (a a' : Option Addr) (c c' : Nat) (w : World) (h : Ints w (.slice a xs.length c) xs) (h' : Ints w (.slice a' xs.length c') xs) (hl : xs.length ≤ 1048576) :
    Calls Try.prog 33 #[.agg #[.int .i64 k, .slice a xs.length c], .agg #[.int .i64 k, .slice a' xs.length c']] w fun e w' => e = .returned (.bool true) ∧ Below w.heap.size w w' := by
  have BB : Hid (Below w.heap.size w ((w.alloc (.cells #[.int .i64 k, .slice a xs.length c] 43)).alloc (.cells #[.int .i64 k, .slice a' xs.length c'] 43))) := Lib.hid (((Below.refl w.heap.size w).alloc (Nat.le_refl _) _).alloc (by simp) _)
  have HE := Lib.hid (fun W h h' => eqint_any (.slice a xs.length c) (.slice a' xs.length c') xs xs W h h' (by omega) (by omega))
  rw [beq_self_eq_true] at HE
  have HV := Lib.hid h
  have HV' := Lib.hid h'
  have hkk : (k != k) = false := by simp
  clear h h'
  go_enter Try.func33, Try.ntmps33
  go_wp2_with fail
  refine (HE.out _ (HV.out.below BB.out) (HV'.out.below BB.out)).mono ?_
  rintro e w1 ⟨rfl, hb⟩
  have HB := Lib.hid (BB.out.trans (hb.mono BB.out.size))
  clear hb
  go_wp2_with fail
  go_ret
  exact ⟨rfl, HB.out⟩

set_option maxRecDepth 100000 in
set_option maxHeartbeats 2000000 in
theorem eqbs_any (v v' : Value) (l : List Bx) (w : World) (h : Bxs w v l) (h' : Bxs w v' l) (hl : l.length ≤ 1048576) (hlen : ∀ b ∈ l, b.2.length ≤ 1048576) :
    Calls Try.prog 12 #[v, v'] w fun e w' => e = .returned (.bool true) ∧ Below w.heap.size w w' := by
  obtain ⟨a, c, rfl, h⟩ := h
  obtain ⟨a', c', rfl, h'⟩ := h'
  have HC := Lib.hid h
  have HC' := Lib.hid h'
  have HLN := Lib.hid hlen
  have hll : ((l.length : Int) != (l.length : Int)) = false := by simp
  clear h h' hlen
  go_enter Try.func12, Try.ntmps12
  go_wp2_with fail
  go_loopw [5] (fun iv wr => ∃ j : Nat, j ≤ l.length ∧ iv = .int .i64 (j : Int) ∧ Hid (Below w.heap.size w wr)) (fun iv _ => l.length - (intOf iv).toNat)
  case atStart => exact ⟨0, Nat.zero_le _, rfl, Below.refl _ _⟩
  case round =>
    obtain ⟨j, hj, rfl, HB⟩ := hrel
    by_cases hlt : j < l.length
    · have hlt' : (j : Int) < (l.length : Int) := by omega
      obtain ⟨g, o, rfl, hc⟩ := HC.out (by rintro rfl; simp at hlt)
      obtain ⟨g', o', rfl, hc'⟩ := HC'.out (by rintro rfl; simp at hlt)
      obtain ⟨ra, rc, hf⟩ := hc j hlt
      obtain ⟨ra', rc', hf'⟩ := hc' j hlt
      have hfw := hf.below HB.out
      have hfw' := hf'.below HB.out
      have hbd := HLN.out _ (takeB l j hlt).2
      generalize l.getD j bxD = f at *
      obtain ⟨key, ins⟩ := f
      obtain ⟨c0, c1, hr⟩ := hfw
      obtain ⟨d0, d1, hr'⟩ := hfw'
      simp only at c0 c1 d0 d1 hr hr' hbd
      have HSF : Hid (∀ W, Below wr.heap.size wr W → Calls Try.prog 33 #[.agg #[.int .i64 key, .slice ra ins.length rc], .agg #[.int .i64 key, .slice ra' ins.length rc']] W fun e w' => e = .returned (.bool true) ∧ Below W.heap.size W w') := Lib.hid fun W hW => eqbox_any key ins ra ra' rc rc' W (hr.below hW) (hr'.below hW) hbd
      clear hf hf' hc hc' hr hr' hbd
      have hlg : g < wr.heap.size := World.block_lt_of_cell? wr _ c0
      have hlg' : g' < wr.heap.size := World.block_lt_of_cell? wr _ d0
      have kS : wr.cell? ⟨g, o + j * 2, none⟩ = some (.int .i64 key) ∧ wr.cell? ⟨g, o + j * 2 + 1, none⟩ = some (.slice ra ins.length rc) ∧ wr.cell? ⟨g', o' + j * 2, none⟩ = some (.int .i64 key) ∧ wr.cell? ⟨g', o' + j * 2 + 1, none⟩ = some (.slice ra' ins.length rc') := ⟨c0, c1, d0, d1⟩
      go_wp2_with fail
      go_region_held3 (fun w' => w'.cell? ⟨g, o + j * 2, none⟩ = some (.int .i64 key) ∧ w'.cell? ⟨g, o + j * 2 + 1, none⟩ = some (.slice ra ins.length rc) ∧ w'.cell? ⟨g', o' + j * 2, none⟩ = some (.int .i64 key) ∧ w'.cell? ⟨g', o' + j * 2 + 1, none⟩ = some (.slice ra' ins.length rc')) (first | assumption | exact kS | exact kS1)
        (first
          | (go_at_call 33; refine (HSF.out _ (by first | exact Below.refl _ _ | exact (Below.refl _ _).drew | exact (Below.refl _ _).drew.drew)).mono ?_; rintro e w1 ⟨rfl, hb0⟩; have hb1 : Below wr.heap.size wr w1 := (by first | exact hb0 | exact (Below.refl _ _).drew.trans hb0 | exact (Below.refl _ _).drew.drew.trans hb0); have kS1 : w1.cell? ⟨g, o + j * 2, none⟩ = some (.int .i64 key) ∧ w1.cell? ⟨g, o + j * 2 + 1, none⟩ = some (.slice ra ins.length rc) ∧ w1.cell? ⟨g', o' + j * 2, none⟩ = some (.int .i64 key) ∧ w1.cell? ⟨g', o' + j * 2 + 1, none⟩ = some (.slice ra' ins.length rc') := ⟨(hb1.cell (p := ⟨g, o + j * 2, none⟩) hlg).trans c0, (hb1.cell (p := ⟨g, o + j * 2 + 1, none⟩) hlg).trans c1, (hb1.cell (p := ⟨g', o' + j * 2, none⟩) hlg').trans d0, (hb1.cell (p := ⟨g', o' + j * 2 + 1, none⟩) hlg').trans d1⟩))
      have HB1 := Lib.hid (HB.out.trans (hb1.mono HB.out.size))
      go_wp2_with fail
      go_roundw
      case rel => exact ⟨j + 1, by omega, by go_num, HB1⟩
      case measure => simp [intOf]; omega
    · have hlt' : ¬ (j : Int) < (l.length : Int) := by omega
      go_wp2_with fail
      go_ret
      exact ⟨rfl, HB.out⟩
end Go.Proofs.Ytakfohcnclmkbab
