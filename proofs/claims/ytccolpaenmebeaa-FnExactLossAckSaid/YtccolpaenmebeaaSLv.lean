/- The model's LossValid. -/
import Derived.Test.YtccolpaenmebeaaPk
import Derived.Test.YtccolpaenmebeaaL6
import Derived.Test.YtccolpaenmebeaaUpq
namespace Go.Proofs.Ytccolpaenmebeaa
open Go.RowKit
set_option linter.unusedVariables false
set_option linter.unusedSimpArgs false

theorem pk_old {w : World} {p : Addr} {v : Value} (o : Obj) (h : w.cell? p = some v) : (w.alloc o).cell? p = some v := (((Below.refl _ _).alloc (Nat.le_refl _) o).cell (World.block_lt_of_cell? w _ h)).trans h
set_option maxRecDepth 100000 in
set_option maxHeartbeats 8000000 in
theorem slval_any (n g : Int) (v : Value) (l : List Pk) (w : World) (hs : Pks w v l) (hl : l.length ≤ 1048576) : Calls Try.prog 15 #[.agg #[.int .i64 n, v, .int .i64 g]] w fun e w' => e = .returned (.bool (decide (lok (n, l, g)))) ∧ Below w.heap.size w w' := by
  obtain ⟨a, c, rfl, hcc, hs⟩ := hs
  have HC := Lib.hid hs
  clear hs
  obtain ⟨p, hp⟩ : ∃ p : Int, p = IntKind.i64.wrap (n - 1) := ⟨_, rfl⟩
  have HP : Hid (0 ≤ n ∧ n ≤ 1000 → p = n - 1) := Lib.hid fun h => by rw [hp]; exact IntWalk.i64_in _ (by omega)
  have hp' := hp.symm
  clear hp
  have R0 := Lib.hid (C3.new w (.int .i64 n) (.slice a l.length c) (.int .i64 g) 24)
  have B0 := Lib.hid ((Below.refl w.heap.size w).alloc (Nat.le_refl _) (.cells #[.int .i64 n, .slice a l.length c, .int .i64 g] 24))
  go_enter Try.func15, Try.ntmps15
  go_wp2_with fail
  obtain ⟨W0, hW0⟩ : ∃ W0, W0 = w.alloc (.cells #[.int .i64 n, .slice a l.length c, .int .i64 g] 24) := ⟨_, rfl⟩
  rw [← hW0] at R0 B0 ⊢
  clear hW0
  go_loopw [3] (fun iv wr => ∃ j : Nat, j ≤ l.length ∧ iv = .int .i64 (j : Int) ∧ Hid (SeenP p g l j) ∧ Hid (Below w.heap.size w wr) ∧ Hid (C3 wr w.heap.size (.int .i64 n) (.slice a l.length c) (.int .i64 g))) (fun iv _ => l.length - (intOf iv).toNat)
  case atStart => exact ⟨0, Nat.zero_le _, rfl, Lib.hid (SeenP.zero _ _ _), B0, R0⟩
  case round =>
    obtain ⟨j, hj, rfl, HS, HB, HR⟩ := hrel
    obtain ⟨r0, r1, r2⟩ := HR.out
    by_cases hlt : j < l.length
    · have hlt' : (j : Int) < (l.length : Int) := by omega
      obtain ⟨gb, o, rfl, hc⟩ := HC.out (by rintro rfl; simp at hlt)
      obtain ⟨d0, d1, d2⟩ := hc j hlt
      have hg := World.block_lt_of_cell? w _ d0
      have e0 := (HB.out.cell (p := ⟨gb, o + j * 3, none⟩) hg).trans d0
      have e1 := (HB.out.cell (p := ⟨gb, o + j * 3 + 1, none⟩) hg).trans d1
      have e2 := (HB.out.cell (p := ⟨gb, o + j * 3 + 2, none⟩) hg).trans d2
      clear d0 d1 d2
      have HSU := Lib.hid (fun h1 h3 => HS.out.succ hlt h1 h3)
      have HBAD := Lib.hid (fun h => lok_bad (p := p) (n := n) (g := g) hlt HP.out h)
      obtain ⟨t, ht⟩ : ∃ t, t = l.getD j pkD := ⟨_, rfl⟩
      rw [← ht] at e0 e1 e2 HSU HBAD
      clear ht
      obtain ⟨x, y, z⟩ := t
      simp only at e0 e1 e2 HSU HBAD
      have RT := Lib.hid (C3.new wr (.int .i64 x) (.int .i64 y) (.int .i64 z) 57)
      have RR := Lib.hid (HR.out.alloc (.cells #[.int .i64 x, .int .i64 y, .int .i64 z] 57))
      have HB1 := Lib.hid (HB.out.alloc HB.out.size (.cells #[.int .i64 x, .int .i64 y, .int .i64 z] 57))
      by_cases k1 : 0 ≤ x ∧ x ≤ p
      case neg =>
        have HF := Lib.hid (decide_eq_false (HBAD.out (.inl (fun h => k1 h.1))))
        clear hc
        go_wp2_with fail
        obtain ⟨W1, hW1⟩ : ∃ W1, W1 = wr.alloc (.cells #[.int .i64 x, .int .i64 y, .int .i64 z] 57) := ⟨_, rfl⟩
        rw [← hW1] at RT RR HB1 ⊢
        have q0 := Up.cell RR.out.c0
        have q1 := Up.cell RR.out.c1
        have q2 := Up.cell RR.out.c2
        have u0 := Up.cell RT.out.c0
        have u1 := Up.cell RT.out.c1
        have u2 := Up.cell RT.out.c2
        clear hW1 e0 e1 e2 r0 r1 r2
        have C1 : Hid (∀ m : Up W1, Calls Try.prog 37 #[.int .i64 x, .int .i64 0, .int .i64 p] m.w fun e w' => e = .returned (.bool false) ∧ ∃ m' : Up W1, w' = m'.w) := Lib.hid (up_call fun W _ => (l6In_any x 0 p W).mono fun e w' h => by rw [decide_eq_false k1] at h; exact ⟨h.1, h.2 ▸ Below.refl _ _⟩)
        refine up_region W1 (Below.refl _ _) (by kernel_rfl) (by kernel_rfl) ?_
        repeat (go_big_quiet_step ((first | (go_at_call 37; (with_reducible exact C1.out _)))))
        refine wpQuiet_nil ?_
        rintro _ ⟨⟨W2, hb2⟩, rfl⟩
        have B2 := Lib.hid (HB1.out.trans (hb2.mono HB1.out.size))
        go_wp2_with fail
        go_ret
        exact ⟨ret_bool HF.out.symm, B2.out⟩
      by_cases k2 : 0 ≤ y ∧ y ≤ 999
      case neg =>
        have HF := Lib.hid (decide_eq_false (HBAD.out (.inl (fun h => k2 h.2.1))))
        clear hc
        go_wp2_with fail
        obtain ⟨W1, hW1⟩ : ∃ W1, W1 = wr.alloc (.cells #[.int .i64 x, .int .i64 y, .int .i64 z] 57) := ⟨_, rfl⟩
        rw [← hW1] at RT RR HB1 ⊢
        have q0 := Up.cell RR.out.c0
        have q1 := Up.cell RR.out.c1
        have q2 := Up.cell RR.out.c2
        have u0 := Up.cell RT.out.c0
        have u1 := Up.cell RT.out.c1
        have u2 := Up.cell RT.out.c2
        clear hW1 e0 e1 e2 r0 r1 r2
        have C1 : Hid (∀ m : Up W1, Calls Try.prog 37 #[.int .i64 x, .int .i64 0, .int .i64 p] m.w fun e w' => e = .returned (.bool true) ∧ ∃ m' : Up W1, w' = m'.w) := Lib.hid (up_call fun W _ => (l6In_any x 0 p W).mono fun e w' h => by rw [decide_eq_true k1] at h; exact ⟨h.1, h.2 ▸ Below.refl _ _⟩)
        have C2 : Hid (∀ m : Up W1, Calls Try.prog 37 #[.int .i64 y, .int .i64 0, .int .i64 999] m.w fun e w' => e = .returned (.bool false) ∧ ∃ m' : Up W1, w' = m'.w) := Lib.hid (up_call fun W _ => (l6In_any y 0 999 W).mono fun e w' h => by rw [decide_eq_false k2] at h; exact ⟨h.1, h.2 ▸ Below.refl _ _⟩)
        refine up_region W1 (Below.refl _ _) (by kernel_rfl) (by kernel_rfl) ?_
        repeat (go_big_quiet_step ((first | (go_at_call 37; (with_reducible exact C1.out _)) | (go_at_call 37; (with_reducible exact C2.out _)))))
        refine wpQuiet_nil ?_
        rintro _ ⟨⟨W2, hb2⟩, rfl⟩
        have B2 := Lib.hid (HB1.out.trans (hb2.mono HB1.out.size))
        go_wp2_with fail
        go_ret
        exact ⟨ret_bool HF.out.symm, B2.out⟩
      by_cases k3 : 1 ≤ z ∧ z ≤ 99
      case neg =>
        have HF := Lib.hid (decide_eq_false (HBAD.out (.inl (fun h => k3 h.2.2.1))))
        clear hc
        go_wp2_with fail
        obtain ⟨W1, hW1⟩ : ∃ W1, W1 = wr.alloc (.cells #[.int .i64 x, .int .i64 y, .int .i64 z] 57) := ⟨_, rfl⟩
        rw [← hW1] at RT RR HB1 ⊢
        have q0 := Up.cell RR.out.c0
        have q1 := Up.cell RR.out.c1
        have q2 := Up.cell RR.out.c2
        have u0 := Up.cell RT.out.c0
        have u1 := Up.cell RT.out.c1
        have u2 := Up.cell RT.out.c2
        clear hW1 e0 e1 e2 r0 r1 r2
        have C1 : Hid (∀ m : Up W1, Calls Try.prog 37 #[.int .i64 x, .int .i64 0, .int .i64 p] m.w fun e w' => e = .returned (.bool true) ∧ ∃ m' : Up W1, w' = m'.w) := Lib.hid (up_call fun W _ => (l6In_any x 0 p W).mono fun e w' h => by rw [decide_eq_true k1] at h; exact ⟨h.1, h.2 ▸ Below.refl _ _⟩)
        have C2 : Hid (∀ m : Up W1, Calls Try.prog 37 #[.int .i64 y, .int .i64 0, .int .i64 999] m.w fun e w' => e = .returned (.bool true) ∧ ∃ m' : Up W1, w' = m'.w) := Lib.hid (up_call fun W _ => (l6In_any y 0 999 W).mono fun e w' h => by rw [decide_eq_true k2] at h; exact ⟨h.1, h.2 ▸ Below.refl _ _⟩)
        have C3 : Hid (∀ m : Up W1, Calls Try.prog 37 #[.int .i64 z, .int .i64 1, .int .i64 99] m.w fun e w' => e = .returned (.bool false) ∧ ∃ m' : Up W1, w' = m'.w) := Lib.hid (up_call fun W _ => (l6In_any z 1 99 W).mono fun e w' h => by rw [decide_eq_false k3] at h; exact ⟨h.1, h.2 ▸ Below.refl _ _⟩)
        refine up_region W1 (Below.refl _ _) (by kernel_rfl) (by kernel_rfl) ?_
        repeat (go_big_quiet_step ((first | (go_at_call 37; (with_reducible exact C1.out _)) | (go_at_call 37; (with_reducible exact C2.out _)) | (go_at_call 37; (with_reducible exact C3.out _)))))
        refine wpQuiet_nil ?_
        rintro _ ⟨⟨W2, hb2⟩, rfl⟩
        have B2 := Lib.hid (HB1.out.trans (hb2.mono HB1.out.size))
        go_wp2_with fail
        go_ret
        exact ⟨ret_bool HF.out.symm, B2.out⟩
      by_cases k4 : x = g
      case pos =>
        have HF := Lib.hid (decide_eq_false (HBAD.out (.inl (fun h => h.2.2.2 k4))))
        have hb4 : (x == g) = true := by rw [beq_iff_eq]; exact k4
        clear hc k4
        go_wp2_with fail
        obtain ⟨W1, hW1⟩ : ∃ W1, W1 = wr.alloc (.cells #[.int .i64 x, .int .i64 y, .int .i64 z] 57) := ⟨_, rfl⟩
        rw [← hW1] at RT RR HB1 ⊢
        have q0 := Up.cell RR.out.c0
        have q1 := Up.cell RR.out.c1
        have q2 := Up.cell RR.out.c2
        have u0 := Up.cell RT.out.c0
        have u1 := Up.cell RT.out.c1
        have u2 := Up.cell RT.out.c2
        clear hW1 e0 e1 e2 r0 r1 r2
        have C1 : Hid (∀ m : Up W1, Calls Try.prog 37 #[.int .i64 x, .int .i64 0, .int .i64 p] m.w fun e w' => e = .returned (.bool true) ∧ ∃ m' : Up W1, w' = m'.w) := Lib.hid (up_call fun W _ => (l6In_any x 0 p W).mono fun e w' h => by rw [decide_eq_true k1] at h; exact ⟨h.1, h.2 ▸ Below.refl _ _⟩)
        have C2 : Hid (∀ m : Up W1, Calls Try.prog 37 #[.int .i64 y, .int .i64 0, .int .i64 999] m.w fun e w' => e = .returned (.bool true) ∧ ∃ m' : Up W1, w' = m'.w) := Lib.hid (up_call fun W _ => (l6In_any y 0 999 W).mono fun e w' h => by rw [decide_eq_true k2] at h; exact ⟨h.1, h.2 ▸ Below.refl _ _⟩)
        have C3 : Hid (∀ m : Up W1, Calls Try.prog 37 #[.int .i64 z, .int .i64 1, .int .i64 99] m.w fun e w' => e = .returned (.bool true) ∧ ∃ m' : Up W1, w' = m'.w) := Lib.hid (up_call fun W _ => (l6In_any z 1 99 W).mono fun e w' h => by rw [decide_eq_true k3] at h; exact ⟨h.1, h.2 ▸ Below.refl _ _⟩)
        refine up_region W1 (Below.refl _ _) (by kernel_rfl) (by kernel_rfl) ?_
        repeat (go_big_quiet_step ((first | (go_at_call 37; (with_reducible exact C1.out _)) | (go_at_call 37; (with_reducible exact C2.out _)) | (go_at_call 37; (with_reducible exact C3.out _)))))
        refine wpQuiet_nil ?_
        rintro _ ⟨⟨W2, hb2⟩, rfl⟩
        have B2 := Lib.hid (HB1.out.trans (hb2.mono HB1.out.size))
        go_wp2_with fail
        go_ret
        exact ⟨ret_bool HF.out.symm, B2.out⟩
      have hb4 : (x == g) = false := by rw [beq_eq_false_iff_ne]; exact k4
      by_cases h0 : j = 0
      case pos =>
        have HS1 := Lib.hid (HSU.out ⟨k1, k2, k3, k4⟩ (fun h => by omega))
        have hj0 : decide ((0 : Int) < (j : Int)) = false := decide_eq_false (by omega)
        have hj1 : decide (0 < j) = false := decide_eq_false (by omega)
        clear hc h0 k4
        go_wp2_with fail
        obtain ⟨W1, hW1⟩ : ∃ W1, W1 = wr.alloc (.cells #[.int .i64 x, .int .i64 y, .int .i64 z] 57) := ⟨_, rfl⟩
        rw [← hW1] at RT RR HB1 ⊢
        have q0 := Up.cell RR.out.c0
        have q1 := Up.cell RR.out.c1
        have q2 := Up.cell RR.out.c2
        have u0 := Up.cell RT.out.c0
        have u1 := Up.cell RT.out.c1
        have u2 := Up.cell RT.out.c2
        clear hW1 e0 e1 e2 r0 r1 r2
        have C1 : Hid (∀ m : Up W1, Calls Try.prog 37 #[.int .i64 x, .int .i64 0, .int .i64 p] m.w fun e w' => e = .returned (.bool true) ∧ ∃ m' : Up W1, w' = m'.w) := Lib.hid (up_call fun W _ => (l6In_any x 0 p W).mono fun e w' h => by rw [decide_eq_true k1] at h; exact ⟨h.1, h.2 ▸ Below.refl _ _⟩)
        have C2 : Hid (∀ m : Up W1, Calls Try.prog 37 #[.int .i64 y, .int .i64 0, .int .i64 999] m.w fun e w' => e = .returned (.bool true) ∧ ∃ m' : Up W1, w' = m'.w) := Lib.hid (up_call fun W _ => (l6In_any y 0 999 W).mono fun e w' h => by rw [decide_eq_true k2] at h; exact ⟨h.1, h.2 ▸ Below.refl _ _⟩)
        have C3 : Hid (∀ m : Up W1, Calls Try.prog 37 #[.int .i64 z, .int .i64 1, .int .i64 99] m.w fun e w' => e = .returned (.bool true) ∧ ∃ m' : Up W1, w' = m'.w) := Lib.hid (up_call fun W _ => (l6In_any z 1 99 W).mono fun e w' h => by rw [decide_eq_true k3] at h; exact ⟨h.1, h.2 ▸ Below.refl _ _⟩)
        refine up_region W1 (Below.refl _ _) (by kernel_rfl) (by kernel_rfl) ?_
        repeat (go_big_quiet_step ((first | (go_at_call 37; (with_reducible exact C1.out _)) | (go_at_call 37; (with_reducible exact C2.out _)) | (go_at_call 37; (with_reducible exact C3.out _)))))
        refine wpQuiet_nil ?_
        rintro _ ⟨⟨W2, hb2⟩, rfl⟩
        have B2 := Lib.hid (HB1.out.trans (hb2.mono HB1.out.size))
        have HR2 := Lib.hid (RR.out.below hb2)
        go_wp2_with fail
        go_roundw
        case rel => exact ⟨j + 1, by omega, by go_num, HS1, B2, HR2⟩
        case measure => simp [intOf]; omega
      obtain ⟨k, rfl⟩ : ∃ k, j = k + 1 := ⟨j - 1, by omega⟩
      obtain ⟨d0, d1, _⟩ := hc k (by omega)
      have e3 := (HB.out.cell (p := ⟨gb, o + k * 3, none⟩) hg).trans d0
      have e4 := (HB.out.cell (p := ⟨gb, o + k * 3 + 1, none⟩) hg).trans d1
      clear d0 d1 hc h0
      obtain ⟨t', ht'⟩ : ∃ t', t' = l.getD k pkD := ⟨_, rfl⟩
      rw [show k + 1 - 1 = k from rfl, ← ht'] at HSU HBAD
      rw [← ht'] at e3 e4
      clear ht'
      obtain ⟨x', y', z'⟩ := t'
      simp only at e3 e4
      have hk : (k : Int) < (l.length : Int) := by omega
      have hj0 : decide ((0 : Int) < (k : Int) + 1) = true := decide_eq_true (by omega)
      by_cases k5 : x' < x
      case neg =>
        have HF := Lib.hid (decide_eq_false (HBAD.out (.inr ⟨by omega, fun h => k5 h.1⟩)))
        have hd5 : decide (x ≤ x') = true := decide_eq_true (by omega)
        clear k4
        go_wp2_with fail
        obtain ⟨W1, hW1⟩ : ∃ W1, W1 = wr.alloc (.cells #[.int .i64 x, .int .i64 y, .int .i64 z] 57) := ⟨_, rfl⟩
        have e6 := pk_old (.cells #[.int .i64 x, .int .i64 y, .int .i64 z] 57) e3
        have e7 := pk_old (.cells #[.int .i64 x, .int .i64 y, .int .i64 z] 57) e4
        rw [← hW1] at RT RR HB1 e6 e7 ⊢
        have q0 := Up.cell RR.out.c0
        have q1 := Up.cell RR.out.c1
        have q2 := Up.cell RR.out.c2
        have u0 := Up.cell RT.out.c0
        have u1 := Up.cell RT.out.c1
        have u2 := Up.cell RT.out.c2
        have v0 := Up.cell e6
        have v1 := Up.cell e7
        clear e3 e4 e6 e7
        clear hW1 e0 e1 e2 r0 r1 r2
        have C1 : Hid (∀ m : Up W1, Calls Try.prog 37 #[.int .i64 x, .int .i64 0, .int .i64 p] m.w fun e w' => e = .returned (.bool true) ∧ ∃ m' : Up W1, w' = m'.w) := Lib.hid (up_call fun W _ => (l6In_any x 0 p W).mono fun e w' h => by rw [decide_eq_true k1] at h; exact ⟨h.1, h.2 ▸ Below.refl _ _⟩)
        have C2 : Hid (∀ m : Up W1, Calls Try.prog 37 #[.int .i64 y, .int .i64 0, .int .i64 999] m.w fun e w' => e = .returned (.bool true) ∧ ∃ m' : Up W1, w' = m'.w) := Lib.hid (up_call fun W _ => (l6In_any y 0 999 W).mono fun e w' h => by rw [decide_eq_true k2] at h; exact ⟨h.1, h.2 ▸ Below.refl _ _⟩)
        have C3 : Hid (∀ m : Up W1, Calls Try.prog 37 #[.int .i64 z, .int .i64 1, .int .i64 99] m.w fun e w' => e = .returned (.bool true) ∧ ∃ m' : Up W1, w' = m'.w) := Lib.hid (up_call fun W _ => (l6In_any z 1 99 W).mono fun e w' h => by rw [decide_eq_true k3] at h; exact ⟨h.1, h.2 ▸ Below.refl _ _⟩)
        refine up_region W1 (Below.refl _ _) (by kernel_rfl) (by kernel_rfl) ?_
        repeat (go_big_quiet_step ((first | (go_at_call 37; (with_reducible exact C1.out _)) | (go_at_call 37; (with_reducible exact C2.out _)) | (go_at_call 37; (with_reducible exact C3.out _)))))
        refine wpQuiet_nil ?_
        rintro _ ⟨⟨W2, hb2⟩, rfl⟩
        have B2 := Lib.hid (HB1.out.trans (hb2.mono HB1.out.size))
        go_wp2_with fail
        go_ret
        exact ⟨ret_bool HF.out.symm, B2.out⟩
      have hd5 : decide (x ≤ x') = false := decide_eq_false (by omega)
      by_cases k6 : y' ≤ y
      case neg =>
        have HF := Lib.hid (decide_eq_false (HBAD.out (.inr ⟨by omega, fun h => k6 h.2⟩)))
        have hd6 : decide (y < y') = true := decide_eq_true (by omega)
        clear k4
        go_wp2_with fail
        obtain ⟨W1, hW1⟩ : ∃ W1, W1 = wr.alloc (.cells #[.int .i64 x, .int .i64 y, .int .i64 z] 57) := ⟨_, rfl⟩
        have e6 := pk_old (.cells #[.int .i64 x, .int .i64 y, .int .i64 z] 57) e3
        have e7 := pk_old (.cells #[.int .i64 x, .int .i64 y, .int .i64 z] 57) e4
        rw [← hW1] at RT RR HB1 e6 e7 ⊢
        have q0 := Up.cell RR.out.c0
        have q1 := Up.cell RR.out.c1
        have q2 := Up.cell RR.out.c2
        have u0 := Up.cell RT.out.c0
        have u1 := Up.cell RT.out.c1
        have u2 := Up.cell RT.out.c2
        have v0 := Up.cell e6
        have v1 := Up.cell e7
        clear e3 e4 e6 e7
        clear hW1 e0 e1 e2 r0 r1 r2
        have C1 : Hid (∀ m : Up W1, Calls Try.prog 37 #[.int .i64 x, .int .i64 0, .int .i64 p] m.w fun e w' => e = .returned (.bool true) ∧ ∃ m' : Up W1, w' = m'.w) := Lib.hid (up_call fun W _ => (l6In_any x 0 p W).mono fun e w' h => by rw [decide_eq_true k1] at h; exact ⟨h.1, h.2 ▸ Below.refl _ _⟩)
        have C2 : Hid (∀ m : Up W1, Calls Try.prog 37 #[.int .i64 y, .int .i64 0, .int .i64 999] m.w fun e w' => e = .returned (.bool true) ∧ ∃ m' : Up W1, w' = m'.w) := Lib.hid (up_call fun W _ => (l6In_any y 0 999 W).mono fun e w' h => by rw [decide_eq_true k2] at h; exact ⟨h.1, h.2 ▸ Below.refl _ _⟩)
        have C3 : Hid (∀ m : Up W1, Calls Try.prog 37 #[.int .i64 z, .int .i64 1, .int .i64 99] m.w fun e w' => e = .returned (.bool true) ∧ ∃ m' : Up W1, w' = m'.w) := Lib.hid (up_call fun W _ => (l6In_any z 1 99 W).mono fun e w' h => by rw [decide_eq_true k3] at h; exact ⟨h.1, h.2 ▸ Below.refl _ _⟩)
        refine up_region W1 (Below.refl _ _) (by kernel_rfl) (by kernel_rfl) ?_
        repeat (go_big_quiet_step ((first | (go_at_call 37; (with_reducible exact C1.out _)) | (go_at_call 37; (with_reducible exact C2.out _)) | (go_at_call 37; (with_reducible exact C3.out _)))))
        refine wpQuiet_nil ?_
        rintro _ ⟨⟨W2, hb2⟩, rfl⟩
        have B2 := Lib.hid (HB1.out.trans (hb2.mono HB1.out.size))
        go_wp2_with fail
        go_ret
        exact ⟨ret_bool HF.out.symm, B2.out⟩
      have hd6 : decide (y < y') = false := decide_eq_false (by omega)
      have HS1 := Lib.hid (HSU.out ⟨k1, k2, k3, k4⟩ (fun h => ⟨k5, k6⟩))
      clear k4
      go_wp2_with fail
      obtain ⟨W1, hW1⟩ : ∃ W1, W1 = wr.alloc (.cells #[.int .i64 x, .int .i64 y, .int .i64 z] 57) := ⟨_, rfl⟩
      have e6 := pk_old (.cells #[.int .i64 x, .int .i64 y, .int .i64 z] 57) e3
      have e7 := pk_old (.cells #[.int .i64 x, .int .i64 y, .int .i64 z] 57) e4
      rw [← hW1] at RT RR HB1 e6 e7 ⊢
      have q0 := Up.cell RR.out.c0
      have q1 := Up.cell RR.out.c1
      have q2 := Up.cell RR.out.c2
      have u0 := Up.cell RT.out.c0
      have u1 := Up.cell RT.out.c1
      have u2 := Up.cell RT.out.c2
      have v0 := Up.cell e6
      have v1 := Up.cell e7
      clear e3 e4 e6 e7
      clear hW1 e0 e1 e2 r0 r1 r2
      have C1 : Hid (∀ m : Up W1, Calls Try.prog 37 #[.int .i64 x, .int .i64 0, .int .i64 p] m.w fun e w' => e = .returned (.bool true) ∧ ∃ m' : Up W1, w' = m'.w) := Lib.hid (up_call fun W _ => (l6In_any x 0 p W).mono fun e w' h => by rw [decide_eq_true k1] at h; exact ⟨h.1, h.2 ▸ Below.refl _ _⟩)
      have C2 : Hid (∀ m : Up W1, Calls Try.prog 37 #[.int .i64 y, .int .i64 0, .int .i64 999] m.w fun e w' => e = .returned (.bool true) ∧ ∃ m' : Up W1, w' = m'.w) := Lib.hid (up_call fun W _ => (l6In_any y 0 999 W).mono fun e w' h => by rw [decide_eq_true k2] at h; exact ⟨h.1, h.2 ▸ Below.refl _ _⟩)
      have C3 : Hid (∀ m : Up W1, Calls Try.prog 37 #[.int .i64 z, .int .i64 1, .int .i64 99] m.w fun e w' => e = .returned (.bool true) ∧ ∃ m' : Up W1, w' = m'.w) := Lib.hid (up_call fun W _ => (l6In_any z 1 99 W).mono fun e w' h => by rw [decide_eq_true k3] at h; exact ⟨h.1, h.2 ▸ Below.refl _ _⟩)
      refine up_region W1 (Below.refl _ _) (by kernel_rfl) (by kernel_rfl) ?_
      repeat (go_big_quiet_step ((first | (go_at_call 37; (with_reducible exact C1.out _)) | (go_at_call 37; (with_reducible exact C2.out _)) | (go_at_call 37; (with_reducible exact C3.out _)))))
      refine wpQuiet_nil ?_
      rintro _ ⟨⟨W2, hb2⟩, rfl⟩
      have B2 := Lib.hid (HB1.out.trans (hb2.mono HB1.out.size))
      have HR2 := Lib.hid (RR.out.below hb2)
      go_wp2_with fail
      go_roundw
      case rel => exact ⟨(k + 1) + 1, by omega, by go_num, HS1, B2, HR2⟩
      case measure => simp [intOf]; omega
    · have hj' : j = l.length := by omega
      have hnl : ¬ (j : Int) < (l.length : Int) := by omega
      by_cases h1 : 0 ≤ n ∧ n ≤ 1000
      case neg =>
        have C8 : Hid (∀ W : World, Calls Try.prog 37 #[.int .i64 n, .int .i64 0, .int .i64 1000] W fun e w' => e = .returned (.bool false) ∧ W = w') := Lib.hid fun W => by have h := l6In_any n 0 1000 W; rw [decide_eq_false h1] at h; exact h
        have HF := Lib.hid (decide_eq_false (fun h : lok (n, l, g) => h1 h.1))
        have C9 := C8
        clear h1 hj
        go_wp2_with (first | (go_at_call 37; (with_reducible refine (C8.out _).mono ?_); rintro e w2 ⟨rfl, rfl⟩) | (go_at_call 37; (with_reducible refine (C9.out _).mono ?_); rintro e w2 ⟨rfl, rfl⟩))
        go_ret
        exact ⟨ret_bool HF.out.symm, HB.out⟩
      by_cases h2 : -1 ≤ g ∧ g ≤ p
      case neg =>
        have C8 : Hid (∀ W : World, Calls Try.prog 37 #[.int .i64 n, .int .i64 0, .int .i64 1000] W fun e w' => e = .returned (.bool true) ∧ W = w') := Lib.hid fun W => by have h := l6In_any n 0 1000 W; rw [decide_eq_true h1] at h; exact h
        have C9 : Hid (∀ W : World, Calls Try.prog 37 #[.int .i64 g, .int .i64 (-1), .int .i64 p] W fun e w' => e = .returned (.bool false) ∧ W = w') := Lib.hid fun W => by have h := l6In_any g (-1) p W; rw [decide_eq_false h2] at h; exact h
        have HF := Lib.hid (decide_eq_false (fun h : lok (n, l, g) => h2 (by rw [HP.out h1]; exact h.2.1)))
        clear h1 h2 hj
        go_wp2_with (first | (go_at_call 37; (with_reducible refine (C8.out _).mono ?_); rintro e w2 ⟨rfl, rfl⟩) | (go_at_call 37; (with_reducible refine (C9.out _).mono ?_); rintro e w2 ⟨rfl, rfl⟩))
        go_ret
        exact ⟨ret_bool HF.out.symm, HB.out⟩
      by_cases h3 : l.length ≤ 12
      case neg =>
        have C8 : Hid (∀ W : World, Calls Try.prog 37 #[.int .i64 n, .int .i64 0, .int .i64 1000] W fun e w' => e = .returned (.bool true) ∧ W = w') := Lib.hid fun W => by have h := l6In_any n 0 1000 W; rw [decide_eq_true h1] at h; exact h
        have C9 : Hid (∀ W : World, Calls Try.prog 37 #[.int .i64 g, .int .i64 (-1), .int .i64 p] W fun e w' => e = .returned (.bool true) ∧ W = w') := Lib.hid fun W => by have h := l6In_any g (-1) p W; rw [decide_eq_true h2] at h; exact h
        have HF := Lib.hid (decide_eq_false (fun h : lok (n, l, g) => h3 h.2.2.1))
        have hd : decide ((l.length : Int) ≤ 12) = false := decide_eq_false (by omega)
        clear h1 h2 hj
        go_wp2_with (first | (go_at_call 37; (with_reducible refine (C8.out _).mono ?_); rintro e w2 ⟨rfl, rfl⟩) | (go_at_call 37; (with_reducible refine (C9.out _).mono ?_); rintro e w2 ⟨rfl, rfl⟩))
        go_ret
        exact ⟨ret_bool HF.out.symm, HB.out⟩
      have C8 : Hid (∀ W : World, Calls Try.prog 37 #[.int .i64 n, .int .i64 0, .int .i64 1000] W fun e w' => e = .returned (.bool true) ∧ W = w') := Lib.hid fun W => by have h := l6In_any n 0 1000 W; rw [decide_eq_true h1] at h; exact h
      have C9 : Hid (∀ W : World, Calls Try.prog 37 #[.int .i64 g, .int .i64 (-1), .int .i64 p] W fun e w' => e = .returned (.bool true) ∧ W = w') := Lib.hid fun W => by have h := l6In_any g (-1) p W; rw [decide_eq_true h2] at h; exact h
      have HF := Lib.hid (decide_eq_true (lok_of_seen (n := n) (g := g) (l := l) (by have h := HS.out; rw [hj', HP.out h1] at h; exact h) h1 (by rw [HP.out h1] at h2; exact h2) h3))
      have hd : decide ((l.length : Int) ≤ 12) = true := decide_eq_true (by omega)
      clear h1 h2 hj
      go_wp2_with (first | (go_at_call 37; (with_reducible refine (C8.out _).mono ?_); rintro e w2 ⟨rfl, rfl⟩) | (go_at_call 37; (with_reducible refine (C9.out _).mono ?_); rintro e w2 ⟨rfl, rfl⟩))
      go_ret
      exact ⟨ret_bool HF.out.symm, HB.out⟩

end Go.Proofs.Ytccolpaenmebeaa
