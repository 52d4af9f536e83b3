/- The program's flightOf. -/
import Derived.Test.YtccolpaenmebeaaFl
import Derived.StillTail
import Derived.StillTailTactics
namespace Go.Proofs.Ytccolpaenmebeaa
open Go.RowKit
set_option linter.unusedVariables false
set_option linter.unusedSimpArgs false

def pkV (p : Pk) : Value := .agg #[.int .i64 p.1, .int .i64 p.2.1, .int .i64 p.2.2]

set_option maxRecDepth 100000 in
set_option maxHeartbeats 1000000 in
theorem fadd_any (B f : Nat) (cs : Cs) (l : List Pk) (p1 p2 p3 : Int) (w : World) (h : Fl w B f cs l) (hB : B ≤ w.heap.size) :
    Calls Try.prog 45 #[.pointer (some ⟨f, 0, none⟩), .agg #[.int .i64 p1, .int .i64 p2, .int .i64 p3]] w fun e w' => e = .returned (.tuple #[]) ∧ (∃ cs', Fl w' B f cs' (l ++ [(p1, p2, p3)])) ∧ Below B w w' := by
  have H := Lib.hid h
  obtain ⟨ini, b, q, he, hc1⟩ := h.c1
  have HE := Lib.hid he
  have hN : NodeAt w b q none := by have := h.ch; rw [he] at this; exact (Ch.drop (a := ini) this).1
  have hbf : ¬ b = f := by
    have := h.nd
    rw [he] at this
    simp at this
    intro e
    exact this.1.2 e.symm
  have hfb : ¬ f = b := fun e => hbf e.symm
  have hflt := h.lt
  have hblt := hN.lt
  have HN := Lib.hid hN
  obtain ⟨W1, hW1⟩ : ∃ W, W = w.alloc (.cells #[.int .i64 p1, .int .i64 p2, .int .i64 p3] 57) := ⟨_, rfl⟩
  have HW1 := Lib.hid hW1
  have B1 := Lib.hid (show Below w.heap.size w W1 by rw [hW1]; exact (Below.refl _ _).alloc (Nat.le_refl _) _)
  have X1 := Lib.hid (show C3 W1 w.heap.size (.int .i64 p1) (.int .i64 p2) (.int .i64 p3) by rw [hW1]; exact C3.new w _ _ _ _)
  have hs1 : W1.heap.size = w.heap.size + 1 := by rw [hW1]; simp
  have N1 := Lib.hid (hN.keep (B1.out.block b hblt))
  have F1 := Lib.hid (h.keep (w' := W1) fun c hc => B1.out.block c (h.flt hc).1)
  have hc1' := (B1.out.cell (p := ⟨f, 1, none⟩) hflt).trans hc1
  rw [pv_some] at hc1'
  have hff := F1.out.fz 1
  obtain ⟨n0, n1, n2, n3, nf⟩ := id N1.out
  have nf3 := nf 3
  rw [pv_none] at n3
  obtain ⟨x0, x1, x2⟩ := id X1.out
  clear h he hN hc1 hW1
  go_enter Try.func45, Try.ntmps45
  go_wp2_with fail
  rw [← HW1.out]
  go_region
  obtain ⟨W2, hW2⟩ : ∃ W2, ((W1.setCell ⟨b, 3, none⟩ (.pointer (some ⟨w.heap.size + 1, 0, none⟩))).alloc (.cells #[.int .i64 p1, .int .i64 p2, .int .i64 p3, .pointer none] 82)).drew = W2 := ⟨_, rfl⟩
  rw [hW2]
  have N2 : Hid (NodeAt W2 (w.heap.size + 1) (p1, p2, p3) none) := Lib.hid (by
    have := NodeAt.new (W1.setCell ⟨b, 3, none⟩ (.pointer (some ⟨w.heap.size + 1, 0, none⟩))) (p1, p2, p3) 82
    rw [show (W1.setCell ⟨b, 3, none⟩ (.pointer (some ⟨w.heap.size + 1, 0, none⟩))).heap.size = w.heap.size + 1 by simp [hs1]] at this
    rw [← hW2]; exact this.keep rfl)
  have K2 : Hid (∀ c, c < w.heap.size → c ≠ b → W2.heap[c]? = W1.heap[c]?) := Lib.hid fun c hc hcb => by
    have k1 : (W1.setCell ⟨b, 3, none⟩ (.pointer (some ⟨w.heap.size + 1, 0, none⟩))).heap[c]? = W1.heap[c]? := keep_set fun e => hcb e.symm
    have k2 := ((Below.refl (w.heap.size + 1) (W1.setCell ⟨b, 3, none⟩ (.pointer (some ⟨w.heap.size + 1, 0, none⟩)))).alloc (by simp [hs1]) (.cells #[.int .i64 p1, .int .i64 p2, .int .i64 p3, .pointer none] 82)).block c (by omega)
    rw [← hW2]; exact k2.trans k1
  have M2 : Hid (NodeAt W2 b q (some (w.heap.size + 1))) := Lib.hid (by
    have k2 := ((Below.refl (w.heap.size + 1) (W1.setCell ⟨b, 3, none⟩ (.pointer (some ⟨w.heap.size + 1, 0, none⟩)))).alloc (by simp [hs1]) (.cells #[.int .i64 p1, .int .i64 p2, .int .i64 p3, .pointer none] 82)).block b (by omega)
    rw [← hW2]; exact (N1.out.set3 (some (w.heap.size + 1))).keep k2)
  have B2 : Hid (Below B w W2) := Lib.hid (by
    have hb : B ≤ b := H.out.lo.2 (b, q) (by rw [HE.out]; simp)
    rw [← hW2]; exact ((((B1.out.mono hB).setCell (p := ⟨b, 3, none⟩) hb _).alloc (by simp [hs1]; omega) _).drew))
  have S2 := Lib.hid (show w.heap.size + 1 < W2.heap.size from N2.out.lt)
  have f0 : Hid (W2.heap[f]? = W1.heap[f]?) := Lib.hid (K2.out f hflt hfb)
  have g1 : W2.cell? ⟨f, 1, none⟩ = _ := (World.cell?_of_block (w := W1) f0.out).trans hc1'
  have g2 : W2.frozen? ⟨f, 1, none⟩ = _ := (World.frozen?_of_block (w := W1) f0.out).trans hff
  obtain ⟨m0, m1, m2, m3, mf⟩ := id M2.out
  rw [pv_some] at m3
  clear n0 n1 n2 n3 nf nf3 x0 x1 x2 hc1' hff hW2 N1 X1
  go_wp2_with fail
  go_end0
  have F0 := F1.out.c0
  have E0 : (W2.setCell ⟨f, 1, none⟩ (.pointer (some ⟨w.heap.size + 1, 0, none⟩))).cell? ⟨f, 0, none⟩ = w.cell? ⟨f, 0, none⟩ := by
    rw [World.cell?_setCell_other _ _ _ _ (by simp)]
    exact ((World.cell?_of_block (w := W1) f0.out).trans F0).trans H.out.c0.symm
  refine ⟨rfl, ⟨_, Fl.add (n := w.heap.size + 1) H.out HE.out (by omega) (N2.out.keep (keep_set (by omega))) (M2.out.keep (keep_set hfb)) (fun x hx => ?_) E0 ?_ (fun i => ?_) hB⟩, B2.out.setCell (p := ⟨f, 1, none⟩) H.out.lo.1 _⟩
  · have hxm : x ∈ cs := by rw [HE.out]; exact List.mem_append_left _ hx
    have hxl := H.out.ch.lt x hxm
    have hnd := H.out.nd
    rw [HE.out, List.map_append, List.nodup_cons, List.nodup_append] at hnd
    have hxf : f ≠ x.1 := fun e => hnd.1 (List.mem_append_left _ (e ▸ List.mem_map_of_mem hx))
    have hxb : x.1 ≠ b := hnd.2.2.2 x.1 (List.mem_map_of_mem hx) b (by simp)
    rw [keep_set hxf, K2.out x.1 hxl hxb]
    exact B1.out.block x.1 hxl
  · exact World.cell?_setCell_same _ _ _ g1
  · rw [World.frozen?_setCell]
    exact (World.frozen?_of_block (w := W1) f0.out).trans (F1.out.fz i)



def FoPost (w : World) (l : List Pk) (e : Ending) (w' : World) : Prop := ∃ f cs, e = .returned (.pointer (some ⟨f, 0, none⟩)) ∧ Fl w' w.heap.size f cs l ∧ Below w.heap.size w w'

set_option maxRecDepth 100000 in
set_option maxHeartbeats 1000000 in
theorem flightOf_any (v : Value) (l : List Pk) (w : World) (hs : Pks w v l) (hl : l.length ≤ 1048576) : Calls Try.prog 42 #[v] w (FoPost w l) := by
  have HS := Lib.hid hs
  obtain ⟨a, c, rfl, hcc, hs⟩ := hs
  have HC := Lib.hid hs
  clear hs hcc
  obtain ⟨W1, hW1⟩ : ∃ W, W = (w.alloc (.cells #[.int .i64 0, .int .i64 0, .int .i64 0, .pointer none] 82)).alloc (.cells #[.pointer (some ⟨w.heap.size, 0, none⟩), .pointer (some ⟨w.heap.size, 0, none⟩)] 84) := ⟨_, rfl⟩
  have HW1 := Lib.hid hW1
  have F1 := Lib.hid (show Fl W1 w.heap.size (w.heap.size + 1) [(w.heap.size, pkD)] (l.take 0) by rw [hW1]; exact Fl.new w _ _ _ (Nat.le_refl _))
  have B1 := Lib.hid (show Below w.heap.size w W1 by rw [hW1]; exact ((Below.refl _ _).alloc (Nat.le_refl _) _).alloc (by simp) _)
  clear hW1
  go_enter Try.func42, Try.ntmps42
  go_wp2_with fail
  rw [← HW1.out]
  go_loopw [15] (fun iv wr => ∃ j : Nat, j ≤ l.length ∧ iv = .int .i64 (j : Int) ∧ Hid (Below w.heap.size w wr) ∧ Hid (∃ cs, Fl wr w.heap.size (w.heap.size + 1) cs (l.take j))) (fun iv _ => l.length - (intOf iv).toNat)
  case atStart => exact ⟨0, Nat.zero_le _, rfl, B1, Lib.hid ⟨_, F1.out⟩⟩
  case round =>
    obtain ⟨j, hj, rfl, HB, HF⟩ := hrel
    obtain ⟨cs, hf⟩ := HF.out
    have HF := Lib.hid hf
    clear hf
    by_cases hlt : j < l.length
    · have hlt' : (j : Int) < (l.length : Int) := by omega
      obtain ⟨gb, o, rfl, hc⟩ := HC.out (by rintro rfl; simp at hlt)
      obtain ⟨d0, d1, d2⟩ := hc j hlt
      have hg := World.block_lt_of_cell? w _ d0
      have e0 := (HB.out.cell (p := ⟨gb, o + j * 3, none⟩) hg).trans d0
      have e1 := (HB.out.cell (p := ⟨gb, o + j * 3 + 1, none⟩) hg).trans d1
      have e2 := (HB.out.cell (p := ⟨gb, o + j * 3 + 2, none⟩) hg).trans d2
      have HT := Lib.hid (takeP l j hlt).1
      obtain ⟨x, hx⟩ : ∃ x, l.getD j pkD = x := ⟨_, rfl⟩
      rw [hx] at e0 e1 e2 HT
      obtain ⟨x1, x2, x3⟩ := x
      simp only at e0 e1 e2
      obtain ⟨W2, hW2⟩ : ∃ W2, wr.alloc (.cells #[.int .i64 x1, .int .i64 x2, .int .i64 x3] 57) = W2 := ⟨_, rfl⟩
      have HW2 := Lib.hid hW2
      have B2 := Lib.hid (show Below w.heap.size w W2 by rw [← hW2]; exact HB.out.alloc HB.out.size _)
      have F2 := Lib.hid (show Fl W2 w.heap.size (w.heap.size + 1) cs (l.take j) by rw [← hW2]; exact HF.out.below ((Below.refl _ _).alloc (Nat.le_refl _) _))
      have X2 := Lib.hid (show C3 W2 wr.heap.size (.int .i64 x1) (.int .i64 x2) (.int .i64 x3) by rw [← hW2]; exact C3.new wr _ _ _ _)
      have hw2 : IntKind.i64.wrap ((j : Int) + 1) = ((j + 1 : Nat) : Int) := by rw [IntWalk.i64_in _ (by omega)]; omega
      clear hx d0 d1 d2 hc hW2
      have HSZ := Lib.hid (show w.heap.size ≤ W2.heap.size from B2.out.size)
      go_wp2_with fail
      rw [HW2.out]
      refine (fadd_any _ _ _ _ x1 x2 x3 _ F2.out HSZ.out).mono ?_
      rintro e w3 ⟨rfl, hf3, hb3⟩
      have F3 := Lib.hid (show ∃ cs, Fl w3 w.heap.size (w.heap.size + 1) cs (l.take (j + 1)) by rw [HT.out]; exact hf3)
      have B3 := Lib.hid (B2.out.trans hb3)
      clear hf3 hb3 e0 e1 e2
      go_wp2_with fail
      go_roundw
      case rel => exact ⟨j + 1, hlt, by go_num, B3, F3⟩
      case measure => simp [intOf]; omega
    · have hlt' : ¬ ((j : Int) < (l.length : Int)) := by omega
      have hjl : j = l.length := by omega
      have hd : decide ((j : Int) < (l.length : Int)) = false := decide_eq_false hlt'
      have HE : Hid (FoPost w l (.returned (.pointer (some ⟨w.heap.size + 1, 0, none⟩))) wr) := Lib.hid ⟨_, _, rfl, by have := HF.out; rw [hjl, List.take_length] at this; exact this, HB.out⟩
      clear hjl
      go_wp2_with fail
      go_ret
      exact HE.out

end Go.Proofs.Ytccolpaenmebeaa
