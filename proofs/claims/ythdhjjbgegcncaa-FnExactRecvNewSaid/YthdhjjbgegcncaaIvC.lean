/- Chapter 31, the program's intervals: agrees. -/
import Derived.Test.YthdhjjbgegcncaaIvB
import Derived.Test.YthdhjjbgegcncaaUpq
namespace Go.Proofs.Ythdhjjbgegcncaa
open Go.RowKit
set_option linter.unusedVariables false
set_option linter.unusedSimpArgs false

/-- The first j bytes that both have agree. -/
def Ag (p q : Qc) (j : Nat) : Prop := ∀ i, i < j → dat p.2 ((max p.1 q.1 - p.1).toNat + i) = dat q.2 ((max p.1 q.1 - q.1).toNat + i)
def agk (p q : Qc) : Nat := (min (p.1 + (p.2.size : Int)) (q.1 + (q.2.size : Int)) - max p.1 q.1).toNat
theorem ag_iff {p q : Qc} (hp : 0 ≤ p.1) (hq : 0 ≤ q.1) : agr p q ↔ Ag p q (agk p q) := by
  rw [agr_iff]
  constructor
  · intro h i hi
    unfold agk at hi
    have := h (max p.1 q.1 + (i : Int)).toNat ⟨by omega, by omega⟩ ⟨by omega, by omega⟩
    unfold byt at this
    rw [show ((((max p.1 q.1 + (i : Int)).toNat : Nat) : Int) - p.1).toNat = (max p.1 q.1 - p.1).toNat + i by omega, show ((((max p.1 q.1 + (i : Int)).toNat : Nat) : Int) - q.1).toNat = (max p.1 q.1 - q.1).toNat + i by omega] at this
    exact this
  · intro h n h1 h2
    have k1 := h1.1
    have k2 := h1.2
    have k3 := h2.1
    have k4 := h2.2
    have := h ((n : Int) - max p.1 q.1).toNat (by unfold agk; omega)
    unfold byt
    rw [show ((n : Int) - p.1).toNat = (max p.1 q.1 - p.1).toNat + ((n : Int) - max p.1 q.1).toNat by omega, show ((n : Int) - q.1).toNat = (max p.1 q.1 - q.1).toNat + ((n : Int) - max p.1 q.1).toNat by omega]
    exact this
theorem bne_false' {a b : Int} (h : a = b) : (a != b) = false := by simp [h]
theorem bne_true' {a b : Int} (h : a ≠ b) : (a != b) = true := by simp [h]

theorem up_out {W : World} {P : World → Prop} (h : ∀ W2, Below W.heap.size W W2 → P W2) : ∀ w', (∃ n : Up W, w' = n.w) → P w' := by
  rintro _ ⟨n, rfl⟩
  exact h n.w n.b
set_option maxRecDepth 100000 in
set_option maxHeartbeats 8000000 in
theorem iagrees_any (x y : Int) (u v : Value) (d e : ByteArray) (w : World) (hu : Byt w u d) (hv : Byt w v e) (h1 : 0 ≤ x ∧ x ≤ 1000000) (h2 : d.size ≤ 1000000) (h3 : 0 ≤ y ∧ y ≤ 1000000) (h4 : e.size ≤ 1000000) :
    Calls Try.prog 62 #[.agg #[.int .i64 x, u], .agg #[.int .i64 y, v]] w fun f w' => f = .returned (.bool (decide (agr (x, d) (y, e)))) ∧ Below w.heap.size w w' := by
  obtain ⟨m, hm⟩ : ∃ m, max x y = m := ⟨_, rfl⟩
  obtain ⟨K, hK⟩ : ∃ K, agk (x, d) (y, e) = K := ⟨_, rfl⟩
  have HA : Hid (agr (x, d) (y, e) ↔ Ag (x, d) (y, e) K) := Lib.hid (by rw [← hK]; exact ag_iff h1.1 h3.1)
  have hK2 : K = (min (x + (d.size : Int)) (y + (e.size : Int)) - m).toNat := by rw [← hK, ← hm]; rfl
  have HM := Lib.hid hm
  have hAg : Hid (∀ j, Ag (x, d) (y, e) j ↔ ∀ i, i < j → dat d ((m - x).toNat + i) = dat e ((m - y).toNat + i)) := Lib.hid fun j => by rw [← hm]; exact Iff.rfl
  clear hK
  obtain ⟨g, o, c, C, mm, rfl, hc, hh, hd⟩ := hu
  obtain ⟨g', o', c', C', mm', rfl, hc', hh', hd'⟩ := hv
  have HD := Lib.hid hd
  have HD' := Lib.hid hd'
  have hg := heap_lt hh
  have hg' := heap_lt hh'
  have B0 := Lib.hid ((((Below.refl w.heap.size w).alloc (Nat.le_refl _) (.cells #[.int .i64 x, .slice (some ⟨g, o, none⟩) d.size c] 55)).alloc (by simp) (.cells #[.int .i64 y, .slice (some ⟨g', o', none⟩) e.size c'] 55)))
  have R1 : Hid (Frm ((w.alloc (.cells #[.int .i64 x, .slice (some ⟨g, o, none⟩) d.size c] 55)).alloc (.cells #[.int .i64 y, .slice (some ⟨g', o', none⟩) e.size c'] 55)) w.heap.size [.int .i64 x, .slice (some ⟨g, o, none⟩) d.size c]) := Lib.hid ((Frm.new w 55 [.int .i64 x, .slice (some ⟨g, o, none⟩) d.size c]).below ((Below.refl (w.heap.size + 1) _).alloc (by simp) _) (by omega))
  have R2 : Hid (Frm ((w.alloc (.cells #[.int .i64 x, .slice (some ⟨g, o, none⟩) d.size c] 55)).alloc (.cells #[.int .i64 y, .slice (some ⟨g', o', none⟩) e.size c'] 55)) (w.heap.size + 1) [.int .i64 y, .slice (some ⟨g', o', none⟩) e.size c']) := Lib.hid (by
    intro i
    simp)
  clear hh hh' hd hd'
  go_enter Try.func62, Try.ntmps62
  go_wp2_with fail

  generalize (w.alloc (.cells #[.int .i64 x, .slice (some ⟨g, o, none⟩) d.size c] 55)).alloc (.cells #[.int .i64 y, .slice (some ⟨g', o', none⟩) e.size c'] 55) = W0 at *
  go_loopw [5] (fun iv wr => ∃ j : Nat, j ≤ K ∧ iv = .int .i64 (m + (j : Int)) ∧ Hid (Ag (x, d) (y, e) j) ∧ Hid (Below w.heap.size w wr) ∧ Hid (Frm wr w.heap.size [.int .i64 x, .slice (some ⟨g, o, none⟩) d.size c]) ∧ Hid (Frm wr (w.heap.size + 1) [.int .i64 y, .slice (some ⟨g', o', none⟩) e.size c'])) (fun iv _ => (m + (K : Int) - intOf iv).toNat)
  case atStart => exact ⟨0, Nat.zero_le _, by simp, Lib.hid (fun i hi => absurd hi (Nat.not_lt_zero _)), B0, R1, R2⟩
  case round =>
    obtain ⟨j, hj, rfl, HN, HB, HR1, HR2⟩ := hrel
    have q0 := Up.cell (HR1.out 0)
    have q1 := Up.cell (HR1.out 1)
    have r0 := Up.cell (HR2.out 0)
    have r1 := Up.cell (HR2.out 1)
    have hs1 : w.heap.size < wr.heap.size := World.block_lt_of_cell? wr _ (HR1.out 0)
    have hs2 : w.heap.size + 1 < wr.heap.size := World.block_lt_of_cell? wr _ (HR2.out 0)
    have C1 : Hid (∀ m : Up wr, Calls Try.prog 42 #[.agg #[.int .i64 x, .slice (some ⟨g, o, none⟩) d.size c]] m.w fun e w' => e = .returned (.int .i64 (x + (d.size : Int))) ∧ ∃ m' : Up wr, w' = m'.w) := Lib.hid (up_call fun W _ => iend_any x _ d.size c W (by omega) (by omega))
    have C2 : Hid (∀ m : Up wr, Calls Try.prog 42 #[.agg #[.int .i64 y, .slice (some ⟨g', o', none⟩) e.size c']] m.w fun f w' => f = .returned (.int .i64 (y + (e.size : Int))) ∧ ∃ m' : Up wr, w' = m'.w) := Lib.hid (up_call fun W _ => iend_any y _ e.size c' W (by omega) (by omega))
    obtain ⟨a, ha⟩ : ∃ a, (m - x).toNat = a := ⟨_, rfl⟩
    obtain ⟨b, hb⟩ : ∃ b, (m - y).toNat = b := ⟨_, rfl⟩
    have HAB := Lib.hid (show (m - x).toNat = a ∧ (m - y).toNat = b from ⟨ha, hb⟩)
    have HN2 := Lib.hid ((hAg.out j).1 HN.out)
    have hAg2 := Lib.hid (hAg.out (j + 1))
    rw [ha, hb] at HN2 hAg2
    by_cases hlt : j < K
    · have hlt' : decide (m + (j : Int) < min (x + (d.size : Int)) (y + (e.size : Int))) = true := decide_eq_true (by omega)
      have hlt2 : m + (j : Int) < min (x + (d.size : Int)) (y + (e.size : Int)) := by omega
      have i1 : a + j < d.size := by omega
      have i2 : b + j < e.size := by omega
      have hw1 : IntKind.i64.wrap (m + (j : Int) - x) = ((a + j : Nat) : Int) := by rw [IntWalk.i64_in _ (by omega)]; omega
      have hw2 : IntKind.i64.wrap (m + (j : Int) - y) = ((b + j : Nat) : Int) := by rw [IntWalk.i64_in _ (by omega)]; omega
      have hw3 : IntKind.i64.wrap (m + (j : Int) + 1) = m + ((j + 1 : Nat) : Int) := by rw [IntWalk.i64_in _ (by omega)]; omega
      have d1 := Lib.hid ((HB.out.cell (p := ⟨g, o + (a + j), none⟩) hg).trans (HD.out (a + j) i1))
      have d2 := Lib.hid ((HB.out.cell (p := ⟨g', o' + (b + j), none⟩) hg').trans (HD'.out (b + j) i2))
      have HBD := Lib.hid (show g < wr.heap.size ∧ g' < wr.heap.size by omega)
      have HJ : Hid (j < K ∧ 0 ≤ m) := Lib.hid (by omega)
      clear ha hb hm hK2 HN
      go_wp2_with fail
      refine up_region wr (Below.refl _ _) (by kernel_rfl) (by kernel_rfl) ?_
      repeat (go_big_quiet_step ((first | (go_at_call 42; first | (with_reducible exact C1.out _) | (with_reducible exact C2.out _)))))
      refine wpQuiet_nil ?_
      refine up_out ?_
      intro W2 hb2
      have hsz := hb2.size
      have B2 := Lib.hid (HB.out.trans (hb2.mono HB.out.size))
      have F1 := Lib.hid (HR1.out.below hb2 hs1)
      have F2 := Lib.hid (HR2.out.below hb2 hs2)
      have x1 := (hb2.cell (p := ⟨g, o + (a + j), none⟩) HBD.out.1).trans d1.out
      have x2 := (hb2.cell (p := ⟨g', o' + (b + j), none⟩) HBD.out.2).trans d2.out
      have z0 := F1.out 0
      have z1 := F1.out 1
      have y0 := F2.out 0
      have y1 := F2.out 1
      clear q0 q1 r0 r1 hb2 d1 d2 C1 C2
      by_cases heq : dat d (a + j) = dat e (b + j)
      · have hbn := bne_false' heq
        have HN3 : Hid (Ag (x, d) (y, e) (j + 1)) := Lib.hid (hAg2.out.2 fun i hi => by
          by_cases h : i < j
          · exact HN2.out i h
          · rw [show i = j by omega]; exact heq)
        clear heq
        go_wp2_with fail
        go_quiet (fail)
        have B3 := Lib.hid (below_drewN' B2.out nq)
        have F3 := Lib.hid (F1.out.below (below_drewN' (Below.refl _ _) nq) (Nat.lt_of_lt_of_le hs1 hsz))
        have F4 := Lib.hid (F2.out.below (below_drewN' (Below.refl _ _) nq) (Nat.lt_of_lt_of_le hs2 hsz))
        go_wp2_with fail
        go_roundw
        case rel => exact ⟨j + 1, by omega, rfl, HN3, B3, F3, F4⟩
        case measure =>
          have hJ := HJ.out
          simp only [intOf]
          omega
      · have hbn := bne_true' heq
        have HF : Hid (decide (agr (x, d) (y, e)) = false) := Lib.hid (decide_eq_false fun k => heq (by have := ((hAg.out K).1 (HA.out.1 k)) j hlt; rwa [HAB.out.1, HAB.out.2] at this))
        clear heq
        go_wp2_with fail
        go_quiet (fail)
        have B3 := Lib.hid (below_drewN' B2.out nq)
        go_wp2_with fail
        go_ret
        exact ⟨ret_bool HF.out.symm, B3.out⟩
    · have hlt' : decide (m + (j : Int) < min (x + (d.size : Int)) (y + (e.size : Int))) = false := decide_eq_false (by omega)
      have hlt2 : ¬ m + (j : Int) < min (x + (d.size : Int)) (y + (e.size : Int)) := by omega
      have HF : Hid (decide (agr (x, d) (y, e)) = true) := Lib.hid (decide_eq_true (HA.out.2 (by rw [show K = j by omega]; exact HN.out)))
      clear ha hb hm hK2 HN hlt
      go_wp2_with fail
      refine up_region wr (Below.refl _ _) (by kernel_rfl) (by kernel_rfl) ?_
      repeat (go_big_quiet_step ((first | (go_at_call 42; first | (with_reducible exact C1.out _) | (with_reducible exact C2.out _)))))
      refine wpQuiet_nil ?_
      refine up_out ?_
      intro W2 hb2
      have B2 := Lib.hid (HB.out.trans (hb2.mono HB.out.size))
      clear q0 q1 r0 r1 hb2 C1 C2
      go_wp2_with fail
      go_ret
      exact ⟨ret_bool HF.out.symm, B2.out⟩
end Go.Proofs.Ythdhjjbgegcncaa
