/- The contract of sameFrames, on one list twice. -/
import Derived.Test.YthflokonihegbabSFs
import Derived.Test.YthflokonihegbabEqF
import Derived.Deep.RegionHeld3
namespace Go.Proofs.Ythflokonihegbab
open Go.RowKit
set_option linter.unusedVariables false
set_option linter.unusedSimpArgs false

set_option maxRecDepth 100000 in
set_option maxHeartbeats 2000000 in
theorem eqfs_any (v v' : Value) (l : List Fr) (w : World) (h : Frs w v l) (h' : Frs w v' l) (hl : l.length ≤ 1048576) (hlen : ∀ f ∈ l, f.rs.length ≤ 1048576 ∧ f.d.size ≤ 2097152) :
    Calls Try.prog 24 #[v, v'] w fun e w' => e = .returned (.bool true) ∧ Below w.heap.size w w' := by
  obtain ⟨a, c, rfl, h⟩ := h
  obtain ⟨a', c', rfl, h'⟩ := h'
  have HC := Lib.hid h
  have HC' := Lib.hid h'
  have HLN := Lib.hid hlen
  have hll : ((l.length : Int) != (l.length : Int)) = false := by simp
  clear h h' hlen
  go_enter Try.func24, Try.ntmps24
  go_wp2_with fail
  go_loopw [5] (fun iv wr => ∃ j : Nat, j ≤ l.length ∧ iv = .int .i64 (j : Int) ∧ Hid (Below w.heap.size w wr)) (fun iv _ => l.length - (intOf iv).toNat)
  case atStart => exact ⟨0, Nat.zero_le _, rfl, Below.refl _ _⟩
  case round =>
    obtain ⟨j, hj, rfl, HB⟩ := hrel
    by_cases hlt : j < l.length
    · have hlt' : (j : Int) < (l.length : Int) := by omega
      obtain ⟨g, o, rfl, hc⟩ := HC.out (by rintro rfl; simp at hlt)
      obtain ⟨g', o', rfl, hc'⟩ := HC'.out (by rintro rfl; simp at hlt)
      obtain ⟨ra, rc, hf⟩ := hc j hlt
      obtain ⟨ra', rc', hf'⟩ := hc' j hlt
      have hfw := hf.below HB.out
      have hfw' := hf'.below HB.out
      have hbd := HLN.out _ (takeF l j hlt).2
      generalize l.getD j frD = f at *
      obtain ⟨c0, c1, c2, c3, c4, c5, hr⟩ := hfw
      obtain ⟨d0, d1, d2, d3, d4, d5, hr'⟩ := hfw'
      have hfe : frEq f f = true := frEq_iff.2 rfl
      have HSF := Lib.hid (fun W h h' => eqfr_any f f (.slice ra f.rs.length rc) (.slice ra' f.rs.length rc') W h h' hbd.1 hbd.1)
      rw [hfe] at HSF
      have HR := Lib.hid hr
      have HR' := Lib.hid hr'
      clear hfe
      clear hf hf' hc hc' hr hr' hbd
      unfold frV at HSF
      have hlg : g < wr.heap.size := World.block_lt_of_cell? wr _ c0
      have hlg' : g' < wr.heap.size := World.block_lt_of_cell? wr _ d0
      have kS : wr.cell? ⟨g, o + j * 6, none⟩ = some (.int .i64 f.k) ∧ wr.cell? ⟨g, o + j * 6 + 1, none⟩ = some (.int .i64 f.a) ∧ wr.cell? ⟨g, o + j * 6 + 2, none⟩ = some (.int .i64 f.b) ∧ wr.cell? ⟨g, o + j * 6 + 3, none⟩ = some (.int .i64 f.c) ∧ wr.cell? ⟨g, o + j * 6 + 4, none⟩ = some (.string f.d) ∧ wr.cell? ⟨g, o + j * 6 + 5, none⟩ = some (.slice ra f.rs.length rc) ∧ wr.cell? ⟨g', o' + j * 6, none⟩ = some (.int .i64 f.k) ∧ wr.cell? ⟨g', o' + j * 6 + 1, none⟩ = some (.int .i64 f.a) ∧ wr.cell? ⟨g', o' + j * 6 + 2, none⟩ = some (.int .i64 f.b) ∧ wr.cell? ⟨g', o' + j * 6 + 3, none⟩ = some (.int .i64 f.c) ∧ wr.cell? ⟨g', o' + j * 6 + 4, none⟩ = some (.string f.d) ∧ wr.cell? ⟨g', o' + j * 6 + 5, none⟩ = some (.slice ra' f.rs.length rc') := ⟨c0, c1, c2, c3, c4, c5, d0, d1, d2, d3, d4, d5⟩
      go_wp2_with fail
      go_region_held3 (fun w' => w'.cell? ⟨g, o + j * 6, none⟩ = some (.int .i64 f.k) ∧ w'.cell? ⟨g, o + j * 6 + 1, none⟩ = some (.int .i64 f.a) ∧ w'.cell? ⟨g, o + j * 6 + 2, none⟩ = some (.int .i64 f.b) ∧ w'.cell? ⟨g, o + j * 6 + 3, none⟩ = some (.int .i64 f.c) ∧ w'.cell? ⟨g, o + j * 6 + 4, none⟩ = some (.string f.d) ∧ w'.cell? ⟨g, o + j * 6 + 5, none⟩ = some (.slice ra f.rs.length rc) ∧ w'.cell? ⟨g', o' + j * 6, none⟩ = some (.int .i64 f.k) ∧ w'.cell? ⟨g', o' + j * 6 + 1, none⟩ = some (.int .i64 f.a) ∧ w'.cell? ⟨g', o' + j * 6 + 2, none⟩ = some (.int .i64 f.b) ∧ w'.cell? ⟨g', o' + j * 6 + 3, none⟩ = some (.int .i64 f.c) ∧ w'.cell? ⟨g', o' + j * 6 + 4, none⟩ = some (.string f.d) ∧ w'.cell? ⟨g', o' + j * 6 + 5, none⟩ = some (.slice ra' f.rs.length rc')) (first | assumption | exact kS | exact kS1)
        (first
          | (go_at_call 13; refine (HSF.out _ (by first | exact HR.out | exact HR.out.below (Below.refl _ _).drew | exact (HR.out.below (Below.refl _ _).drew).below (Below.refl _ _).drew) (by first | exact HR'.out | exact HR'.out.below (Below.refl _ _).drew | exact (HR'.out.below (Below.refl _ _).drew).below (Below.refl _ _).drew)).mono ?_; rintro e w1 ⟨rfl, hb0⟩; have hb1 : Below wr.heap.size wr w1 := (by first | exact hb0 | exact (Below.refl _ _).drew.trans hb0 | exact (Below.refl _ _).drew.drew.trans hb0); have kS1 : w1.cell? ⟨g, o + j * 6, none⟩ = some (.int .i64 f.k) ∧ w1.cell? ⟨g, o + j * 6 + 1, none⟩ = some (.int .i64 f.a) ∧ w1.cell? ⟨g, o + j * 6 + 2, none⟩ = some (.int .i64 f.b) ∧ w1.cell? ⟨g, o + j * 6 + 3, none⟩ = some (.int .i64 f.c) ∧ w1.cell? ⟨g, o + j * 6 + 4, none⟩ = some (.string f.d) ∧ w1.cell? ⟨g, o + j * 6 + 5, none⟩ = some (.slice ra f.rs.length rc) ∧ w1.cell? ⟨g', o' + j * 6, none⟩ = some (.int .i64 f.k) ∧ w1.cell? ⟨g', o' + j * 6 + 1, none⟩ = some (.int .i64 f.a) ∧ w1.cell? ⟨g', o' + j * 6 + 2, none⟩ = some (.int .i64 f.b) ∧ w1.cell? ⟨g', o' + j * 6 + 3, none⟩ = some (.int .i64 f.c) ∧ w1.cell? ⟨g', o' + j * 6 + 4, none⟩ = some (.string f.d) ∧ w1.cell? ⟨g', o' + j * 6 + 5, none⟩ = some (.slice ra' f.rs.length rc') := ⟨(hb1.cell (p := ⟨g, o + j * 6, none⟩) hlg).trans c0, (hb1.cell (p := ⟨g, o + j * 6 + 1, none⟩) hlg).trans c1, (hb1.cell (p := ⟨g, o + j * 6 + 2, none⟩) hlg).trans c2, (hb1.cell (p := ⟨g, o + j * 6 + 3, none⟩) hlg).trans c3, (hb1.cell (p := ⟨g, o + j * 6 + 4, none⟩) hlg).trans c4, (hb1.cell (p := ⟨g, o + j * 6 + 5, none⟩) hlg).trans c5, (hb1.cell (p := ⟨g', o' + j * 6, none⟩) hlg').trans d0, (hb1.cell (p := ⟨g', o' + j * 6 + 1, none⟩) hlg').trans d1, (hb1.cell (p := ⟨g', o' + j * 6 + 2, none⟩) hlg').trans d2, (hb1.cell (p := ⟨g', o' + j * 6 + 3, none⟩) hlg').trans d3, (hb1.cell (p := ⟨g', o' + j * 6 + 4, none⟩) hlg').trans d4, (hb1.cell (p := ⟨g', o' + j * 6 + 5, none⟩) hlg').trans d5⟩))
      have HB1 := Lib.hid (HB.out.trans (hb1.mono HB.out.size))
      go_wp2_with fail
      go_roundw
      case rel => exact ⟨j + 1, by omega, by go_num, HB1⟩
      case measure => simp [intOf]; omega
    · have hlt' : ¬ (j : Int) < (l.length : Int) := by omega
      go_wp2_with fail
      go_ret
      exact ⟨rfl, HB.out⟩
end Go.Proofs.Ythflokonihegbab
