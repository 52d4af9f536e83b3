/- Chapter 31, the program's intervals: end, from, bytesAt. -/
import Derived.Test.YthdhjjbgegcncaaIvRow
import Derived.Test.YthdhjjbgegcncaaRcH
import Derived.BigQuiet
import Derived.BigRegion
import Derived.Laws.ResultCell
namespace Go.Proofs.Ythdhjjbgegcncaa
open Go.RowKit
set_option linter.unusedVariables false
set_option linter.unusedSimpArgs false

set_option maxRecDepth 100000 in
set_option maxHeartbeats 1000000 in
theorem iend_any (x : Int) (a : Option Addr) (n c : Nat) (w : World) (h1 : -1000000000 ≤ x ∧ x ≤ 1000000000) (h2 : n ≤ 1000000000) :
    Calls Try.prog 42 #[.agg #[.int .i64 x, .slice a n c]] w fun e w' => e = .returned (.int .i64 (x + (n : Int))) ∧ Below w.heap.size w w' := by
  have B := Lib.hid ((Below.refl w.heap.size w).alloc (Nat.le_refl _) (.cells #[.int .i64 x, .slice a n c] 55))
  have hw : IntKind.i64.wrap (x + (n : Int)) = x + (n : Int) := IntWalk.i64_in _ (by omega)
  go_enter Try.func42, Try.ntmps42
  go_wp2_with fail
  go_ret
  exact ⟨rfl, B.out⟩

set_option maxRecDepth 100000 in
set_option maxHeartbeats 1000000 in
theorem bytesat_any (x : Int) (d : ByteArray) (w : World) (hd : d.size ≤ 1000000000) :
    Calls Try.prog 38 #[.int .i64 x, .string d] w fun e w' => ∃ v, e = .returned (.agg #[.int .i64 x, v]) ∧ Below w.heap.size w w' ∧ Byt w' v d := by
  obtain ⟨w1, hw1⟩ : ∃ w1, w.alloc (.cells #[.int .i64 0, .slice none 0 0] 55) = w1 := ⟨_, rfl⟩
  have B1 : Below w.heap.size w w1 := by rw [← hw1]; exact (Below.refl _ _).alloc (Nat.le_refl _) _
  have hs1 : w1.heap.size = w.heap.size + 1 := by rw [← hw1]; simp
  have Z1 : Frm w1 w.heap.size [.int .i64 0, .slice none 0 0] := by rw [← hw1]; exact Frm.new w _ _
  have T1 : Thaw w1 w.heap.size := by rw [← hw1]; exact Thaw.new w _ [.int .i64 0, .slice none 0 0]
  have hT : w1.heap[w.heap.size]? = some (.cells #[.int .i64 0, .slice none 0 0] 55 (0, 0)) := by rw [← hw1]; show (w.heap.push _)[w.heap.size]? = _; simp
  obtain ⟨w2, hw2⟩ : ∃ w2, Lib.bytesWorld w1 5 d = w2 := ⟨_, rfl⟩
  obtain ⟨c, hc⟩ : ∃ c, grownCap w1 d.size 0 5 = c := ⟨_, rfl⟩
  have hcv : (convert 9 53 (.string d)).run Try.prog w1 = .ok (.slice (some ⟨w1.heap.size, 0, none⟩) d.size c) w2 := by
    rw [← hw2, ← hc]
    exact Lib.run_convert_string_bytes (P := Try.prog) w1 9 53 5 d Try.underlying9 Try.underlying53 Try.underlying5
  have B2 : Below w1.heap.size w1 w2 := by
    rw [← hw2]
    refine ⟨rfl, rfl, rfl, by rw [Lib.bytesWorld_size]; omega, fun k hk => Lib.bytesWorld_at_old _ _ _ _ hk⟩
  have hb : Byt w2 (.slice (some ⟨w1.heap.size, 0, none⟩) d.size c) d := by
    rw [← hw2, ← hc]
    refine ⟨_, 0, _, _, _, rfl, grownCap_ge _ _ _ _, Lib.bytesWorld_at_new _ _ _, fun i hi => ?_⟩
    rw [Nat.zero_add, Lib.bytesWorld_cell _ _ _ _ hi]
    congr 2
    unfold dat
    rw [List.getD_eq_getElem?_getD, Array.getElem?_toList]
  have HB := Lib.hid hb
  have BB := Lib.hid (B1.trans (B2.mono B1.size))
  have c0 : w2.cell? ⟨w.heap.size, 0, none⟩ = some (.int .i64 0) := (B2.cell (p := ⟨w.heap.size, 0, none⟩) (by show w.heap.size < _; omega)).trans (Z1 0)
  have c1 : w2.cell? ⟨w.heap.size, 1, none⟩ = some (.slice none 0 0) := (B2.cell (p := ⟨w.heap.size, 1, none⟩) (by show w.heap.size < _; omega)).trans (Z1 1)
  have t0 : w2.frozen? ⟨w.heap.size, 0, none⟩ = false := (B2.frozen (p := ⟨w.heap.size, 0, none⟩) (by show w.heap.size < _; omega)).trans (T1 0)
  have t1 : w2.frozen? ⟨w.heap.size, 1, none⟩ = false := (B2.frozen (p := ⟨w.heap.size, 1, none⟩) (by show w.heap.size < _; omega)).trans (T1 1)
  have hT2 : w2.heap[w.heap.size]? = some (.cells #[.int .i64 0, .slice none 0 0] 55 (0, 0)) := (B2.block _ (by omega)).trans hT
  have Z2 : Frm w2 w.heap.size [.int .i64 0, .slice none 0 0] := fun i => (B2.cell (p := ⟨w.heap.size, i, none⟩) (by show w.heap.size < _; omega)).trans (Z1 i)
  have FIN : Hid (Byt ((w2.setCell ⟨w.heap.size, 0, none⟩ (.int .i64 x)).setCell ⟨w.heap.size, 1, none⟩ (.slice (some ⟨w1.heap.size, 0, none⟩) d.size c)) (.slice (some ⟨w1.heap.size, 0, none⟩) d.size c) d) := Lib.hid (by
    obtain ⟨g, o, c', C, m, e, h1, h2, h3⟩ := hb
    injection e with e1 e2 e3
    injection e1 with e1
    injection e1 with e1 e4
    subst e1 e4 e3
    have hne : w1.heap.size ≠ w.heap.size := by omega
    refine ⟨_, _, _, C, m, rfl, h1, ?_, fun i hi => ?_⟩
    · rw [Below.heap_setCell _ _ _ _ (by simpa using hne), Below.heap_setCell _ _ _ _ (by simpa using hne)]; exact h2
    · rw [World.cell?_setCell_other _ _ _ _ (by intro e; injection e with e _ _; omega), World.cell?_setCell_other _ _ _ _ (by intro e; injection e with e _ _; omega)]
      exact h3 i hi)
  have BF : Hid (Below w.heap.size w ((w2.setCell ⟨w.heap.size, 0, none⟩ (.int .i64 x)).setCell ⟨w.heap.size, 1, none⟩ (.slice (some ⟨w1.heap.size, 0, none⟩) d.size c))) := Lib.hid (Below.setCell (Below.setCell BB.out (p := ⟨w.heap.size, 0, none⟩) (Nat.le_refl _) _) (p := ⟨w.heap.size, 1, none⟩) (Nat.le_refl _) _)
  have HF : Hid (Frm ((w2.setCell ⟨w.heap.size, 0, none⟩ (.int .i64 x)).setCell ⟨w.heap.size, 1, none⟩ (.slice (some ⟨w1.heap.size, 0, none⟩) d.size c)) w.heap.size [.int .i64 x, .slice (some ⟨w1.heap.size, 0, none⟩) d.size c]) := Lib.hid ((Z2.set (i := 0) (by simp) (.int .i64 x)).set (i := 1) (by simp) (.slice (some ⟨w1.heap.size, 0, none⟩) d.size c))
  clear hb B1 B2 BB Z1 Z2 T1 hT hT2 hw2 hc hs1 HB
  subst hw1
  go_enter Try.func38, Try.ntmps38
  go_wp2_with fail
  have f0 := HF.out 0
  have f1 := HF.out 1
  refine bodyPost_ret (v := .agg #[.int .i64 x, .slice (some ⟨w.heap.size + 1, 0, none⟩) d.size c]) ?hr rfl ?_
  case hr => rw [results_cell_one rfl]; go_simp
  exact ⟨_, rfl, by simpa using BF.out, by simpa using FIN.out⟩
end Go.Proofs.Ythdhjjbgegcncaa
