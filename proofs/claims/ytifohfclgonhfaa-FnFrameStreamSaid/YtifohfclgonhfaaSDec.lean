/- Chapter 4, the model's l4Decode, all ways; FrameDecode. -/
import Derived.Test.YtifohfclgonhfaaSDecB
namespace Go.Proofs.Ytifohfclgonhfaa
open Go.RowKit
set_option linter.unusedVariables false
set_option linter.unusedSimpArgs false

set_option maxRecDepth 100000 in
set_option maxHeartbeats 2000000 in
theorem sdec_e0 (s : ByteArray) (w : World) (hs : s.size ≤ 4194304) (u : Nat) (HP : Hid (tk4 1 s = ([], u))) (HN : Hid (dec4 s = none)) : Calls Try.prog 48 #[.string s] w (DecPost w (dec4 s)) := by
  have HM : Hid (s.size ≤ maxLen) := Lib.hid (by unfold maxLen; omega)
  have HT1 := Lib.hid (fun W => stake_any s 1 W HM.out (by omega))
  rw [HP.out] at HT1
  go_enter Try.func48, Try.ntmps48
  go_wp2_with fail
  refine (HT1.out _).mono ?_
  rintro e w1 ⟨a1, c1, rfl, hb1, ho1⟩
  have hrb : w.heap.size < (w.alloc (.cells #[.int .i64 0, .int .i64 0, .int .i64 0, .int .i64 0, .string ⟨#[]⟩, .slice none 0 0] 25)).heap.size := by simp
  have RC5 := Frm.below (Frm.new w 25 [.int .i64 0, .int .i64 0, .int .i64 0, .int .i64 0, .string ⟨#[]⟩, .slice none 0 0]) hb1 hrb
  have RT5 := Thaw.below (Thaw.new w 25 [.int .i64 0, .int .i64 0, .int .i64 0, .int .i64 0, .string ⟨#[]⟩, .slice none 0 0]) hb1 hrb
  have HB5 : Hid (Below w.heap.size w w1) := Lib.hid (((Below.refl w.heap.size w).alloc (Nat.le_refl _) _).trans (hb1.mono (by omega)))
  obtain ⟨r0, r1, r2, r3, r4, r5⟩ : w1.cell? ⟨w.heap.size, 0, none⟩ = some (.int .i64 0) ∧ w1.cell? ⟨w.heap.size, 1, none⟩ = some (.int .i64 0) ∧ w1.cell? ⟨w.heap.size, 2, none⟩ = some (.int .i64 0) ∧ w1.cell? ⟨w.heap.size, 3, none⟩ = some (.int .i64 0) ∧ w1.cell? ⟨w.heap.size, 4, none⟩ = some (.string ⟨#[]⟩) ∧ w1.cell? ⟨w.heap.size, 5, none⟩ = some (.slice none 0 0) := ⟨RC5 0, RC5 1, RC5 2, RC5 3, RC5 4, RC5 5⟩
  obtain ⟨t0, t1, t2, t3, t4, t5⟩ : w1.frozen? ⟨w.heap.size, 0, none⟩ = false ∧ w1.frozen? ⟨w.heap.size, 1, none⟩ = false ∧ w1.frozen? ⟨w.heap.size, 2, none⟩ = false ∧ w1.frozen? ⟨w.heap.size, 3, none⟩ = false ∧ w1.frozen? ⟨w.heap.size, 4, none⟩ = false ∧ w1.frozen? ⟨w.heap.size, 5, none⟩ = false := ⟨RT5 0, RT5 1, RT5 2, RT5 3, RT5 4, RT5 5⟩
  have RC5 := Lib.hid RC5
  clear hb1 ho1 RT5
  have RC6 : Hid (Frm ((((((w1.setCell ⟨w.heap.size, 0, none⟩ (.int .i64 0)).setCell ⟨w.heap.size, 1, none⟩ (.int .i64 0)).setCell ⟨w.heap.size, 2, none⟩ (.int .i64 0)).setCell ⟨w.heap.size, 3, none⟩ (.int .i64 0)).setCell ⟨w.heap.size, 4, none⟩ (.string ⟨#[]⟩)).setCell ⟨w.heap.size, 5, none⟩ (.slice none 0 0)) w.heap.size [.int .i64 0, .int .i64 0, .int .i64 0, .int .i64 0, .string ⟨#[]⟩, .slice none 0 0]) := Lib.hid ((((((RC5.out.set (i := 0) (by simp) (.int .i64 0)).set (i := 1) (by simp) (.int .i64 0)).set (i := 2) (by simp) (.int .i64 0)).set (i := 3) (by simp) (.int .i64 0)).set (i := 4) (by simp) (.string ⟨#[]⟩)).set (i := 5) (by simp) (.slice none 0 0))
  have B6 : Hid (Below w.heap.size w ((((((w1.setCell ⟨w.heap.size, 0, none⟩ (.int .i64 0)).setCell ⟨w.heap.size, 1, none⟩ (.int .i64 0)).setCell ⟨w.heap.size, 2, none⟩ (.int .i64 0)).setCell ⟨w.heap.size, 3, none⟩ (.int .i64 0)).setCell ⟨w.heap.size, 4, none⟩ (.string ⟨#[]⟩)).setCell ⟨w.heap.size, 5, none⟩ (.slice none 0 0))) := Lib.hid (((((((HB5.out.setCell (Nat.le_refl _) _).setCell (Nat.le_refl _) _).setCell (Nat.le_refl _) _).setCell (Nat.le_refl _) _).setCell (Nat.le_refl _) _).setCell (Nat.le_refl _) _))
  go_wp2_with fail
  generalize ((((((w1.setCell ⟨w.heap.size, 0, none⟩ (.int .i64 0)).setCell ⟨w.heap.size, 1, none⟩ (.int .i64 0)).setCell ⟨w.heap.size, 2, none⟩ (.int .i64 0)).setCell ⟨w.heap.size, 3, none⟩ (.int .i64 0)).setCell ⟨w.heap.size, 4, none⟩ (.string ⟨#[]⟩)).setCell ⟨w.heap.size, 5, none⟩ (.slice none 0 0)) = W6 at *
  obtain ⟨s0, s1', s2, s3, s4, s5⟩ : W6.cell? ⟨w.heap.size, 0, none⟩ = some (.int .i64 0) ∧ W6.cell? ⟨w.heap.size, 1, none⟩ = some (.int .i64 0) ∧ W6.cell? ⟨w.heap.size, 2, none⟩ = some (.int .i64 0) ∧ W6.cell? ⟨w.heap.size, 3, none⟩ = some (.int .i64 0) ∧ W6.cell? ⟨w.heap.size, 4, none⟩ = some (.string ⟨#[]⟩) ∧ W6.cell? ⟨w.heap.size, 5, none⟩ = some (.slice none 0 0) := ⟨RC6.out 0, RC6.out 1, RC6.out 2, RC6.out 3, RC6.out 4, RC6.out 5⟩
  refine bodyPost_ret (v := .tuple #[frV ⟨0, 0, 0, 0, ⟨#[]⟩, []⟩ (.slice none 0 0), .int .i64 0]) ?hr rfl ?_
  case hr => rw [results_cell_tmp rfl]; unfold frV; go_simp
  exact .inl ⟨HN.out, rfl, B6.out⟩

set_option maxRecDepth 100000 in
set_option maxHeartbeats 2000000 in
theorem sdec_e1 (s : ByteArray) (w : World) (hs : s.size ≤ 4194304) (k : Int) (u : Nat) (HP : Hid (tk4 1 s = ([k], u))) (hk : 10 < k) (HN : Hid (dec4 s = none)) : Calls Try.prog 48 #[.string s] w (DecPost w (dec4 s)) := by
  have HM : Hid (s.size ≤ maxLen) := Lib.hid (by unfold maxLen; omega)
  have HT1 := Lib.hid (fun W => stake_any s 1 W HM.out (by omega))
  rw [HP.out] at HT1
  go_enter Try.func48, Try.ntmps48
  go_wp2_with fail
  refine (HT1.out _).mono ?_
  rintro e w1 ⟨a1, c1, rfl, hb1, ho1⟩
  obtain ⟨g, rfl, hg1, hg2, hc1, hcell⟩ := first_int ho1 (by simp)
  have q0 := hcell 0 (by simp)
  simp only [List.getD_cons_zero] at q0
  have hrb : w.heap.size < (w.alloc (.cells #[.int .i64 0, .int .i64 0, .int .i64 0, .int .i64 0, .string ⟨#[]⟩, .slice none 0 0] 25)).heap.size := by simp
  have RC5 := Frm.below (Frm.new w 25 [.int .i64 0, .int .i64 0, .int .i64 0, .int .i64 0, .string ⟨#[]⟩, .slice none 0 0]) hb1 hrb
  have RT5 := Thaw.below (Thaw.new w 25 [.int .i64 0, .int .i64 0, .int .i64 0, .int .i64 0, .string ⟨#[]⟩, .slice none 0 0]) hb1 hrb
  have HB5 : Hid (Below w.heap.size w w1) := Lib.hid (((Below.refl w.heap.size w).alloc (Nat.le_refl _) _).trans (hb1.mono (by omega)))
  obtain ⟨r0, r1, r2, r3, r4, r5⟩ : w1.cell? ⟨w.heap.size, 0, none⟩ = some (.int .i64 0) ∧ w1.cell? ⟨w.heap.size, 1, none⟩ = some (.int .i64 0) ∧ w1.cell? ⟨w.heap.size, 2, none⟩ = some (.int .i64 0) ∧ w1.cell? ⟨w.heap.size, 3, none⟩ = some (.int .i64 0) ∧ w1.cell? ⟨w.heap.size, 4, none⟩ = some (.string ⟨#[]⟩) ∧ w1.cell? ⟨w.heap.size, 5, none⟩ = some (.slice none 0 0) := ⟨RC5 0, RC5 1, RC5 2, RC5 3, RC5 4, RC5 5⟩
  obtain ⟨t0, t1, t2, t3, t4, t5⟩ : w1.frozen? ⟨w.heap.size, 0, none⟩ = false ∧ w1.frozen? ⟨w.heap.size, 1, none⟩ = false ∧ w1.frozen? ⟨w.heap.size, 2, none⟩ = false ∧ w1.frozen? ⟨w.heap.size, 3, none⟩ = false ∧ w1.frozen? ⟨w.heap.size, 4, none⟩ = false ∧ w1.frozen? ⟨w.heap.size, 5, none⟩ = false := ⟨RT5 0, RT5 1, RT5 2, RT5 3, RT5 4, RT5 5⟩
  have RC5 := Lib.hid RC5
  clear hb1 ho1 hcell RT5
  have RC6 : Hid (Frm ((((((w1.setCell ⟨w.heap.size, 0, none⟩ (.int .i64 0)).setCell ⟨w.heap.size, 1, none⟩ (.int .i64 0)).setCell ⟨w.heap.size, 2, none⟩ (.int .i64 0)).setCell ⟨w.heap.size, 3, none⟩ (.int .i64 0)).setCell ⟨w.heap.size, 4, none⟩ (.string ⟨#[]⟩)).setCell ⟨w.heap.size, 5, none⟩ (.slice none 0 0)) w.heap.size [.int .i64 0, .int .i64 0, .int .i64 0, .int .i64 0, .string ⟨#[]⟩, .slice none 0 0]) := Lib.hid ((((((RC5.out.set (i := 0) (by simp) (.int .i64 0)).set (i := 1) (by simp) (.int .i64 0)).set (i := 2) (by simp) (.int .i64 0)).set (i := 3) (by simp) (.int .i64 0)).set (i := 4) (by simp) (.string ⟨#[]⟩)).set (i := 5) (by simp) (.slice none 0 0))
  have B6 : Hid (Below w.heap.size w ((((((w1.setCell ⟨w.heap.size, 0, none⟩ (.int .i64 0)).setCell ⟨w.heap.size, 1, none⟩ (.int .i64 0)).setCell ⟨w.heap.size, 2, none⟩ (.int .i64 0)).setCell ⟨w.heap.size, 3, none⟩ (.int .i64 0)).setCell ⟨w.heap.size, 4, none⟩ (.string ⟨#[]⟩)).setCell ⟨w.heap.size, 5, none⟩ (.slice none 0 0))) := Lib.hid (((((((HB5.out.setCell (Nat.le_refl _) _).setCell (Nat.le_refl _) _).setCell (Nat.le_refl _) _).setCell (Nat.le_refl _) _).setCell (Nat.le_refl _) _).setCell (Nat.le_refl _) _))
  go_wp2_with fail
  generalize ((((((w1.setCell ⟨w.heap.size, 0, none⟩ (.int .i64 0)).setCell ⟨w.heap.size, 1, none⟩ (.int .i64 0)).setCell ⟨w.heap.size, 2, none⟩ (.int .i64 0)).setCell ⟨w.heap.size, 3, none⟩ (.int .i64 0)).setCell ⟨w.heap.size, 4, none⟩ (.string ⟨#[]⟩)).setCell ⟨w.heap.size, 5, none⟩ (.slice none 0 0)) = W6 at *
  obtain ⟨s0, s1', s2, s3, s4, s5⟩ : W6.cell? ⟨w.heap.size, 0, none⟩ = some (.int .i64 0) ∧ W6.cell? ⟨w.heap.size, 1, none⟩ = some (.int .i64 0) ∧ W6.cell? ⟨w.heap.size, 2, none⟩ = some (.int .i64 0) ∧ W6.cell? ⟨w.heap.size, 3, none⟩ = some (.int .i64 0) ∧ W6.cell? ⟨w.heap.size, 4, none⟩ = some (.string ⟨#[]⟩) ∧ W6.cell? ⟨w.heap.size, 5, none⟩ = some (.slice none 0 0) := ⟨RC6.out 0, RC6.out 1, RC6.out 2, RC6.out 3, RC6.out 4, RC6.out 5⟩
  refine bodyPost_ret (v := .tuple #[frV ⟨0, 0, 0, 0, ⟨#[]⟩, []⟩ (.slice none 0 0), .int .i64 0]) ?hr rfl ?_
  case hr => rw [results_cell_tmp rfl]; unfold frV; go_simp
  exact .inl ⟨HN.out, rfl, B6.out⟩

set_option maxRecDepth 100000 in
set_option maxHeartbeats 2000000 in
theorem sdec_e2 (s : ByteArray) (w : World) (hs : s.size ≤ 4194304) (k : Int) (u : Nat) (HP : Hid (tk4 1 s = ([k], u))) (hk0 : 0 ≤ k) (hk1 : k ≤ 10) (q : List Int) (m : Nat) (HQ : Hid (tk4 (fnum k) (cut s u) = (q, m))) (hlt : q.length < fnum k) (HNO : Hid (dec4 s = none)) : Calls Try.prog 48 #[.string s] w (DecPost w (dec4 s)) := by
  have HM : Hid (s.size ≤ maxLen) := Lib.hid (by unfold maxLen; omega)
  have hu := tk4_size 1 s
  rw [HP.out] at hu
  have hu' : (u : Int) ≤ (s.size : Int) := by simp only at hu; omega
  have HT1 := Lib.hid (fun W => stake_any s 1 W HM.out (by omega))
  rw [HP.out] at HT1
  have HT2 := Lib.hid (fun W => stake_any (cut s u) (fnum k) W (by rw [cut_sz]; unfold maxLen; omega) (by have := fnum_le k; omega))
  rw [HQ.out] at HT2
  have hn := fnum_le k
  obtain ⟨n, hne⟩ : ∃ n, fnum k = n := ⟨_, rfl⟩
  have HN := Lib.hid hne
  rw [hne] at hn hlt HT2 HQ
  clear hne
  go_enter Try.func48, Try.ntmps48
  go_wp2_with fail
  refine (HT1.out _).mono ?_
  rintro e w1 ⟨a1, c1, rfl, hb1, ho1⟩
  obtain ⟨g, rfl, hg1, hg2, hc1, hcell⟩ := first_int ho1 (by simp)
  have q0 := hcell 0 (by simp)
  simp only [List.getD_cons_zero] at q0
  have HB1 := Lib.hid hb1
  clear hb1 ho1 hcell
  go_wp2_with fail
  have s1 : ((w1.alloc (.cells #[] 85)).alloc (.cells #[.int .i64 k, .int .i64 0, .int .i64 0, .int .i64 0, .string ⟨#[]⟩, .slice (some ⟨w1.heap.size, 0, none⟩) 0 0] 25)).heap.size = w1.heap.size + 1 + 1 := by simp
  have CF : Hid (∀ i, ((w1.alloc (.cells #[] 85)).alloc (.cells #[.int .i64 k, .int .i64 0, .int .i64 0, .int .i64 0, .string ⟨#[]⟩, .slice (some ⟨w1.heap.size, 0, none⟩) 0 0] 25)).cell? ⟨w1.heap.size + 1, i, none⟩ = [Value.int .i64 k, .int .i64 0, .int .i64 0, .int .i64 0, .string ⟨#[]⟩, .slice (some ⟨w1.heap.size, 0, none⟩) 0 0][i]?) := Lib.hid (fun i => by
    have := cell_lit (w1.alloc (.cells #[] 85)) 25 [.int .i64 k, .int .i64 0, .int .i64 0, .int .i64 0, .string ⟨#[]⟩, .slice (some ⟨w1.heap.size, 0, none⟩) 0 0] i
    rw [show (w1.alloc (.cells #[] 85)).heap.size = w1.heap.size + 1 by simp] at this
    exact this)
  have BW : Hid (Below w1.heap.size w1 ((w1.alloc (.cells #[] 85)).alloc (.cells #[.int .i64 k, .int .i64 0, .int .i64 0, .int .i64 0, .string ⟨#[]⟩, .slice (some ⟨w1.heap.size, 0, none⟩) 0 0] 25))) := Lib.hid (((Below.refl _ _).alloc (Nat.le_refl _) _).alloc (by simp) _)
  have FZ : Hid (∀ i, ((w1.alloc (.cells #[] 85)).alloc (.cells #[.int .i64 k, .int .i64 0, .int .i64 0, .int .i64 0, .string ⟨#[]⟩, .slice (some ⟨w1.heap.size, 0, none⟩) 0 0] 25)).frozen? ⟨w1.heap.size + 1, i, none⟩ = false) := Lib.hid (fun i => World.frozen?_alloc_at _ _ _ i (by simp))
  have OW : Hid (OwnRg ((w1.alloc (.cells #[] 85)).alloc (.cells #[.int .i64 k, .int .i64 0, .int .i64 0, .int .i64 0, .string ⟨#[]⟩, .slice (some ⟨w1.heap.size, 0, none⟩) 0 0] 25)) w1.heap.size (.slice (some ⟨w1.heap.size, 0, none⟩) 0 0) []) := Lib.hid (World.ownsRow.alloc (own_new 85 2 w1.heap.size w1 (Nat.le_refl _)) _)
  generalize (w1.alloc (.cells #[] 85)).alloc (.cells #[.int .i64 k, .int .i64 0, .int .i64 0, .int .i64 0, .string ⟨#[]⟩, .slice (some ⟨w1.heap.size, 0, none⟩) 0 0] 25) = W at *
  have f0 := CF.out 0
  simp only [List.getElem?_cons_zero] at f0
  go_region_held3 (fun w' => w'.cell? ⟨w1.heap.size + 1, 0, none⟩ = some (.int .i64 k)) (first | assumption | exact f0 | exact kS2)
    (first
      | (go_at_call 49; refine (snum_any _ _).mono ?_; rw [HN.out]; rintro e wn ⟨rfl, rfl⟩)
      | (go_at_call 70; refine (HT2.out _).mono ?_; rintro e w2 ⟨a2, c2, rfl, hb2, ho2⟩; have hb2' : Below W.heap.size W w2 := (by first | exact (Below.refl W.heap.size W).drew.drew.trans hb2 | exact (Below.refl W.heap.size W).drew.trans hb2 | exact hb2); have kS2 : w2.cell? ⟨w1.heap.size + 1, 0, none⟩ = some (.int .i64 k) := (hb2'.cell (by show w1.heap.size + 1 < _; omega)).trans f0))
  clear kS2 f0
  have HB2 := Lib.hid hb2'
  have hz2w := hb2'.size
  have c0 : w2.cell? ⟨w1.heap.size + 1, 0, none⟩ = some (.int .i64 k) := (hb2'.cell (by show w1.heap.size + 1 < _; omega)).trans (CF.out 0)
  have hrb : w.heap.size < (w.alloc (.cells #[.int .i64 0, .int .i64 0, .int .i64 0, .int .i64 0, .string ⟨#[]⟩, .slice none 0 0] 25)).heap.size := by simp
  have hz1w := HB1.out.size
  have RC5 : Hid (Frm w2 w.heap.size [.int .i64 0, .int .i64 0, .int .i64 0, .int .i64 0, .string ⟨#[]⟩, .slice none 0 0]) := Lib.hid (Frm.below (Frm.below (Frm.below (Frm.new w 25 _) HB1.out hrb) BW.out (by omega)) hb2' (by omega))
  have RT5 := (Thaw.below (Thaw.below (Thaw.below (Thaw.new w 25 [.int .i64 0, .int .i64 0, .int .i64 0, .int .i64 0, .string ⟨#[]⟩, .slice none 0 0]) HB1.out hrb) BW.out (by omega)) hb2' (by omega))
  have HB5 : Hid (Below w.heap.size w w2) := Lib.hid (((Below.refl w.heap.size w).alloc (Nat.le_refl _) _).trans ((HB1.out.trans ((BW.out.trans (hb2'.mono (by omega))).mono hz1w)).mono (by omega)))
  obtain ⟨r0, r1, r2, r3, r4, r5⟩ : w2.cell? ⟨w.heap.size, 0, none⟩ = some (.int .i64 0) ∧ w2.cell? ⟨w.heap.size, 1, none⟩ = some (.int .i64 0) ∧ w2.cell? ⟨w.heap.size, 2, none⟩ = some (.int .i64 0) ∧ w2.cell? ⟨w.heap.size, 3, none⟩ = some (.int .i64 0) ∧ w2.cell? ⟨w.heap.size, 4, none⟩ = some (.string ⟨#[]⟩) ∧ w2.cell? ⟨w.heap.size, 5, none⟩ = some (.slice none 0 0) := ⟨RC5.out 0, RC5.out 1, RC5.out 2, RC5.out 3, RC5.out 4, RC5.out 5⟩
  obtain ⟨t0, t1, t2, t3, t4, t5⟩ : w2.frozen? ⟨w.heap.size, 0, none⟩ = false ∧ w2.frozen? ⟨w.heap.size, 1, none⟩ = false ∧ w2.frozen? ⟨w.heap.size, 2, none⟩ = false ∧ w2.frozen? ⟨w.heap.size, 3, none⟩ = false ∧ w2.frozen? ⟨w.heap.size, 4, none⟩ = false ∧ w2.frozen? ⟨w.heap.size, 5, none⟩ = false := ⟨RT5 0, RT5 1, RT5 2, RT5 3, RT5 4, RT5 5⟩
  clear hb2 hb2' ho2 RT5
  have hnn : (q.length : Int) < (n : Int) := by omega
  go_wp2_with fail
  refine (snum_any _ _).mono ?_
  rw [HN.out]
  rintro e wn ⟨rfl, rfl⟩
  have RC6 : Hid (Frm ((((((w2.setCell ⟨w.heap.size, 0, none⟩ (.int .i64 0)).setCell ⟨w.heap.size, 1, none⟩ (.int .i64 0)).setCell ⟨w.heap.size, 2, none⟩ (.int .i64 0)).setCell ⟨w.heap.size, 3, none⟩ (.int .i64 0)).setCell ⟨w.heap.size, 4, none⟩ (.string ⟨#[]⟩)).setCell ⟨w.heap.size, 5, none⟩ (.slice none 0 0)) w.heap.size [.int .i64 0, .int .i64 0, .int .i64 0, .int .i64 0, .string ⟨#[]⟩, .slice none 0 0]) := Lib.hid ((((((RC5.out.set (i := 0) (by simp) (.int .i64 0)).set (i := 1) (by simp) (.int .i64 0)).set (i := 2) (by simp) (.int .i64 0)).set (i := 3) (by simp) (.int .i64 0)).set (i := 4) (by simp) (.string ⟨#[]⟩)).set (i := 5) (by simp) (.slice none 0 0))
  have B6 : Hid (Below w.heap.size w ((((((w2.setCell ⟨w.heap.size, 0, none⟩ (.int .i64 0)).setCell ⟨w.heap.size, 1, none⟩ (.int .i64 0)).setCell ⟨w.heap.size, 2, none⟩ (.int .i64 0)).setCell ⟨w.heap.size, 3, none⟩ (.int .i64 0)).setCell ⟨w.heap.size, 4, none⟩ (.string ⟨#[]⟩)).setCell ⟨w.heap.size, 5, none⟩ (.slice none 0 0))) := Lib.hid (((((((HB5.out.setCell (Nat.le_refl _) _).setCell (Nat.le_refl _) _).setCell (Nat.le_refl _) _).setCell (Nat.le_refl _) _).setCell (Nat.le_refl _) _).setCell (Nat.le_refl _) _))
  go_wp2_with fail
  generalize ((((((w2.setCell ⟨w.heap.size, 0, none⟩ (.int .i64 0)).setCell ⟨w.heap.size, 1, none⟩ (.int .i64 0)).setCell ⟨w.heap.size, 2, none⟩ (.int .i64 0)).setCell ⟨w.heap.size, 3, none⟩ (.int .i64 0)).setCell ⟨w.heap.size, 4, none⟩ (.string ⟨#[]⟩)).setCell ⟨w.heap.size, 5, none⟩ (.slice none 0 0)) = W6 at *
  obtain ⟨s0, s1', s2, s3, s4, s5⟩ : W6.cell? ⟨w.heap.size, 0, none⟩ = some (.int .i64 0) ∧ W6.cell? ⟨w.heap.size, 1, none⟩ = some (.int .i64 0) ∧ W6.cell? ⟨w.heap.size, 2, none⟩ = some (.int .i64 0) ∧ W6.cell? ⟨w.heap.size, 3, none⟩ = some (.int .i64 0) ∧ W6.cell? ⟨w.heap.size, 4, none⟩ = some (.string ⟨#[]⟩) ∧ W6.cell? ⟨w.heap.size, 5, none⟩ = some (.slice none 0 0) := ⟨RC6.out 0, RC6.out 1, RC6.out 2, RC6.out 3, RC6.out 4, RC6.out 5⟩
  refine bodyPost_ret (v := .tuple #[frV ⟨0, 0, 0, 0, ⟨#[]⟩, []⟩ (.slice none 0 0), .int .i64 0]) ?hr rfl ?_
  case hr => rw [results_cell_tmp rfl]; unfold frV; go_simp
  exact .inl ⟨HNO.out, rfl, B6.out⟩


theorem sdec_any (s : ByteArray) (w : World) (hs : s.size ≤ 4194304) : Calls Try.prog 48 #[.string s] w (DecPost w (dec4 s)) := by
  have hl1 := tk4_len 1 s
  have hok := (tk4_ok 1 s).1
  obtain ⟨p, hp⟩ : ∃ p, tk4 1 s = p := ⟨_, rfl⟩
  rw [hp] at hl1 hok
  obtain ⟨xs, u⟩ := p
  simp only at hl1 hok
  by_cases h0 : xs.length < 1
  · have hx : xs = [] := List.length_eq_zero_iff.1 (by omega)
    subst hx
    exact sdec_e0 s w hs u (Lib.hid hp) (Lib.hid (by unfold dec4; rw [hp, if_pos (.inl h0)]))
  obtain ⟨k, rfl⟩ := List.length_eq_one_iff.1 (by omega : xs.length = 1)
  have hk := (okAll_cons k [] hok).1
  by_cases h1 : 10 < k
  · exact sdec_e1 s w hs k u (Lib.hid hp) h1 (Lib.hid (by unfold dec4; rw [hp, if_pos (.inr h1)]))
  have hby := dec4_by hp h1
  obtain ⟨r, hr⟩ : ∃ r, tk4 (fnum k) (cut s u) = r := ⟨_, rfl⟩
  have hlr := tk4_len (fnum k) (cut s u)
  rw [hr] at hby hlr
  obtain ⟨q, m⟩ := r
  simp only at hby hlr
  by_cases h2 : q.length < fnum k
  · rw [if_pos h2] at hby
    exact sdec_e2 s w hs k u (Lib.hid hp) hk.1 (by omega) q m (Lib.hid hr) h2 (Lib.hid hby)
  rw [if_neg h2] at hby
  by_cases k2 : k = 2
  · exact sdec_2 s w hs k u (Lib.hid hp) hk.1 (by omega) q m (Lib.hid hr) (by omega) (Lib.hid hby) (Lib.hid k2)
  by_cases k3 : k = 3
  · exact sdec_3 s w hs k u (Lib.hid hp) hk.1 (by omega) q m (Lib.hid hr) (by omega) (Lib.hid hby) (Lib.hid k3)
  by_cases k9 : k = 9
  · exact sdec_9 s w hs k u (Lib.hid hp) hk.1 (by omega) q m (Lib.hid hr) (by omega) (Lib.hid hby) (Lib.hid k9)
  exact sdec_x s w hs k u (Lib.hid hp) hk.1 (by omega) q m (Lib.hid hr) (by omega) (Lib.hid hby) k2 (by omega)

end Go.Proofs.Ytifohfclgonhfaa
