/- The program's RegisterValid. -/
import Derived.Test.YtlhjhdlpejpooabSRv
import Derived.Test.YtlhjhdlpejpooabITk
import Derived.Test.YtlhjhdlpejpooabCmpT
import Derived.Test.YtlhjhdlpejpooabRpMath
import Derived.Test.YtlhjhdlpejpooabTcMem
namespace Go.Proofs.Ytlhjhdlpejpooab
open Go.RowKit
set_option linter.unusedVariables false
set_option linter.unusedSimpArgs false

theorem below_grown {W w' : World} (h : ∃ q os', w' = Go.Sort.grow (W.drewN q) os') : Below W.heap.size W w' := by
  obtain ⟨q, os, rfl⟩ := h
  refine ⟨rfl, rfl, rfl, ?_, fun k hk => ?_⟩
  · simp [Go.Sort.grow, World.drewN]
  · simp only [Go.Sort.grow, World.drewN]
    rw [Array.getElem?_append_left hk]
theorem cmpt_below (x y : Tic) (W : World) : Calls Try.prog 46 #[.agg #[.int .i64 x.1, .int .i64 x.2], .agg #[.int .i64 y.1, .int .i64 y.2]] W fun e w' => e = .returned (.int .i64 (cmpT x y)) ∧ Below W.heap.size W w' :=
  (cmpt_any x y W).mono fun e w' h => ⟨h.1, below_grown h.2⟩
theorem regok_no {n : Int} {l : List Tic} (h : ¬ ((0 ≤ n ∧ n ≤ 999) ∧ l.length ≤ 8)) : ¬ regok (n, l) := fun k => h ⟨k.1, k.2.1⟩

set_option maxRecDepth 100000 in
set_option maxHeartbeats 4000000 in
theorem ireg_any (n : Int) (v : Value) (l : List Tic) (w : World) (hs : Tics w v l) (hl : l.length ≤ 1048576) : Calls Try.prog 42 #[.agg #[.int .i64 n, v]] w (BoolB w (decide (regok (n, l)))) := by
  obtain ⟨a, c, rfl, hs⟩ := hs
  have HC := Lib.hid hs
  clear hs
  have R0 := Lib.hid (RgV.new w n (.slice a l.length c) 28)
  have B0 := Lib.hid ((Below.refl w.heap.size w).alloc (Nat.le_refl _) (.cells #[.int .i64 n, .slice a l.length c] 28))
  go_enter Try.func42, Try.ntmps42
  go_wp2_with fail
  refine (upTo_any n 999 _).mono ?_
  rintro e w' ⟨rfl, rfl⟩
  obtain ⟨W0, hW0⟩ : ∃ W0, W0 = w.alloc (.cells #[.int .i64 n, .slice a l.length c] 28) := ⟨_, rfl⟩
  rw [← hW0] at R0 B0 ⊢
  clear hW0
  by_cases kn : 0 ≤ n ∧ n ≤ 999
  · rw [decide_eq_true kn]
    have HN := Lib.hid kn
    clear kn
    obtain ⟨q0, q1⟩ := R0.out
    by_cases kl8 : l.length ≤ 8
    · have hd8 : decide ((8 : Int) < (l.length : Int)) = false := decide_eq_false (by omega)
      have hd8' : ¬ (8 : Int) < (l.length : Int) := by omega
      have hd8n : ¬ 8 < l.length := by omega
      go_wp2_with fail
      clear q0 q1
      go_loopw [18] (fun iv wr => ∃ j : Nat, j ≤ l.length ∧ iv = .int .i64 (j : Int) ∧ Hid (Seen n (n - 10) l j) ∧ Hid (Below w.heap.size w wr) ∧ Hid (RgV wr w.heap.size n (.slice a l.length c))) (fun iv _ => l.length - (intOf iv).toNat)
      case atStart => exact ⟨0, Nat.zero_le _, rfl, Lib.hid (Seen.zero _ _ _), B0, R0⟩
      case round =>
        obtain ⟨j, hj, rfl, HS, HB, HR⟩ := hrel
        by_cases hlt : j < l.length
        · have hlt' : (j : Int) < (l.length : Int) := by omega
          obtain ⟨g, o, rfl, hc⟩ := HC.out (by rintro rfl; simp at hlt)
          obtain ⟨d0, d1⟩ := hc j hlt
          have hg := World.block_lt_of_cell? w _ d0
          have e0 := (HB.out.cell (p := ⟨g, o + j * 2, none⟩) hg).trans d0
          have e1 := (HB.out.cell (p := ⟨g, o + j * 2 + 1, none⟩) hg).trans d1
          clear d0 d1
          have HCC := Lib.hid hc
          have HGG := Lib.hid hg
          clear hc hg
          have HSU := Lib.hid (fun h1 h2 h3 => HS.out.succ hlt h1 h2 h3)
          have HBAD := Lib.hid (fun h => regok_bad (p := n - 10) (n := n) hlt (fun _ => rfl) h)
          obtain ⟨t, ht⟩ : ∃ t, t = l.getD j (0, 0) := ⟨_, rfl⟩
          rw [← ht] at e0 e1 HSU HBAD
          clear ht
          obtain ⟨x, y⟩ := t
          have RT := Lib.hid (RgV.new wr x (.int .i64 y) 38)
          have RR := Lib.hid (HR.out.below ((Below.refl _ _).alloc (Nat.le_refl _) (.cells #[.int .i64 x, .int .i64 y] 38)))
          have HB1 := Lib.hid (HB.out.alloc HB.out.size (.cells #[.int .i64 x, .int .i64 y] 38))
          go_wp2_with fail
          refine (isticket_any (x, y) _).mono ?_
          rintro e w1 ⟨rfl, hb1⟩
          have RT1 := Lib.hid (RT.out.below hb1)
          have RR1 := Lib.hid (RR.out.below hb1)
          have HB2 := Lib.hid (HB1.out.trans (hb1.mono HB1.out.size))
          clear hb1 e0 e1 RT RR HB1
          by_cases k1 : tkvd (x, y)
          · rw [decide_eq_true k1]
            obtain ⟨t0, t1⟩ := RT1.out
            obtain ⟨r0, r1⟩ := RR1.out
            have HK1 := Lib.hid k1
            clear k1
            generalize wr.heap.size = tb at RT1 t0 t1 ⊢
            go_wp2_with fail
            refine (isrecent_any x y n _ HN.out).mono ?_
            rintro e w2 ⟨rfl, hb2⟩
            have RT2 := Lib.hid (RT1.out.below hb2)
            have RR2 := Lib.hid (RR1.out.below hb2)
            have HB3 := Lib.hid (HB2.out.trans (hb2.mono HB2.out.size))
            clear hb2 t0 t1 r0 r1 RT1 RR1 HB2
            by_cases k2 : trec n (x, y)
            · rw [decide_eq_true k2]
              have HK2 := Lib.hid k2
              clear k2
              by_cases h0 : j = 0
              · have HS1 := Lib.hid (HSU.out HK1.out HK2.out (fun h => by omega))
                have hj0 : decide ((0 : Int) < (j : Int)) = false := decide_eq_false (by omega)
                have hj1 : decide (0 < j) = false := decide_eq_false (by omega)
                clear h0
                go_wp2_with fail
                refine up_region w2 (Below.refl _ _) (by kernel_rfl) (by kernel_rfl) ?_
                repeat (go_big_quiet_step (fail))
                refine wpQuiet_nil ?_
                rintro _ ⟨⟨W2, hb2⟩, rfl⟩
                have B2 := Lib.hid (HB3.out.trans (hb2.mono HB3.out.size))
                have HR2 := Lib.hid (RR2.out.below hb2)
                go_wp2_with fail
                go_roundw
                case rel => exact ⟨j + 1, by omega, by go_num, HS1, B2, HR2⟩
                case measure => simp [intOf]; omega
              · obtain ⟨k, rfl⟩ : ∃ k, j = k + 1 := ⟨j - 1, by omega⟩
                obtain ⟨d0, d1⟩ := HCC.out k (by omega)
                have e2 := Up.cell ((HB3.out.cell (p := ⟨g, o + k * 2, none⟩) HGG.out).trans d0)
                have e3 := Up.cell ((HB3.out.cell (p := ⟨g, o + k * 2 + 1, none⟩) HGG.out).trans d1)
                clear d0 d1 h0
                obtain ⟨t', ht'⟩ : ∃ t', t' = l.getD k (0, 0) := ⟨_, rfl⟩
                rw [show k + 1 - 1 = k from rfl, ← ht'] at HSU HBAD
                rw [← ht'] at e2 e3
                clear ht'
                obtain ⟨x', y'⟩ := t'
                have hk : (k : Int) < (l.length : Int) := by omega
                have hj0 : decide ((0 : Int) < (k : Int) + 1) = true := decide_eq_true (by omega)
                have hj1 : decide ((0 : Int) < ((k + 1 : Nat) : Int)) = true := decide_eq_true (by omega)
                have hw1 : IntKind.i64.wrap (((k + 1 : Nat) : Int) - 1) = (k : Int) := by rw [IntWalk.i64_in _ (by omega)]; omega
                have hw2 : IntKind.i64.wrap ((k : Int) + 1 - 1) = (k : Int) := by rw [IntWalk.i64_in _ (by omega)]; omega
                have hw3 : wrap64 (k : Int) = (k : Int) := by unfold wrap64; omega
                have q0 := Up.cell RR2.out.c0
                have q1 := Up.cell RR2.out.c1
                have u0 := Up.cell RT2.out.c0
                have u1 := Up.cell RT2.out.c1
                have C3 := Lib.hid (fun W : World => cmpt_below (x', y') (x, y) W)
                by_cases k3 : TL (x', y') (x, y)
                · have HS1 := Lib.hid (HSU.out HK1.out HK2.out (fun h => k3))
                  have hneg : ¬ (0 : Int) ≤ cmpT (x', y') (x, y) := by have := (cmpT_neg (x', y') (x, y)).2 k3; omega
                  generalize cmpT (x', y') (x, y) = cv at C3 hneg
                  have hdn : decide ((0 : Int) ≤ cv) = false := decide_eq_false hneg
                  have D3 : Hid (∀ m : Up w2, Calls Try.prog 46 #[.agg #[.int .i64 x', .int .i64 y'], .agg #[.int .i64 x, .int .i64 y]] m.w fun e w' => e = .returned (.int .i64 cv) ∧ ∃ m' : Up w2, w' = m'.w) := Lib.hid (up_call fun W _ => C3.out W)
                  clear k3
                  go_wp2_with fail
                  refine up_region w2 (Below.refl _ _) (by kernel_rfl) (by kernel_rfl) ?_
                  repeat (go_big_quiet_step ((go_at_call 46; exact D3.out _)))
                  refine wpQuiet_nil ?_
                  rintro _ ⟨⟨W2, hb2⟩, rfl⟩
                  have B2 := Lib.hid (HB3.out.trans (hb2.mono HB3.out.size))
                  have HR2 := Lib.hid (RR2.out.below hb2)
                  go_wp2_with fail
                  go_roundw
                  case rel => exact ⟨k + 1 + 1, by omega, by go_num, HS1, B2, HR2⟩
                  case measure => simp [intOf]; omega
                · have HNO := Lib.hid (HBAD.out (.inr (.inr ⟨by omega, k3⟩)))
                  have hneg : (0 : Int) ≤ cmpT (x', y') (x, y) := by exact Int.not_lt.1 fun q => k3 ((cmpT_neg (x', y') (x, y)).1 q)
                  generalize cmpT (x', y') (x, y) = cv at C3 hneg
                  have hdn : decide ((0 : Int) ≤ cv) = true := decide_eq_true hneg
                  have D3 : Hid (∀ m : Up w2, Calls Try.prog 46 #[.agg #[.int .i64 x', .int .i64 y'], .agg #[.int .i64 x, .int .i64 y]] m.w fun e w' => e = .returned (.int .i64 cv) ∧ ∃ m' : Up w2, w' = m'.w) := Lib.hid (up_call fun W _ => C3.out W)
                  clear k3
                  go_wp2_with fail
                  refine up_region w2 (Below.refl _ _) (by kernel_rfl) (by kernel_rfl) ?_
                  repeat (go_big_quiet_step ((go_at_call 46; exact D3.out _)))
                  refine wpQuiet_nil ?_
                  rintro _ ⟨⟨W2, hb2⟩, rfl⟩
                  have B2 := Lib.hid (HB3.out.trans (hb2.mono HB3.out.size))
                  go_wp2_with fail
                  go_ret
                  exact ⟨ret_bool (decide_eq_false HNO.out).symm, B2.out⟩
            · rw [decide_eq_false k2]
              have HNO := Lib.hid (HBAD.out (.inr (.inl k2)))
              clear k2
              go_wp2_with fail
              go_ret
              exact ⟨ret_bool (decide_eq_false HNO.out).symm, HB3.out⟩
          · rw [decide_eq_false k1]
            have HNO := Lib.hid (HBAD.out (.inl k1))
            clear k1
            go_wp2_with fail
            go_ret
            exact ⟨ret_bool (decide_eq_false HNO.out).symm, HB2.out⟩
        · have hlt' : ¬ (j : Int) < (l.length : Int) := by omega
          have hjl : j = l.length := by omega
          rw [hjl] at HS
          have HYES := Lib.hid (regok_of_seen HS.out HN.out kl8)
          clear HS hjl
          go_wp2_with fail
          go_ret
          exact ⟨ret_bool (decide_eq_true HYES.out).symm, HB.out⟩
    · have hd8 : decide ((8 : Int) < (l.length : Int)) = true := decide_eq_true (by omega)
      have hd8' : (8 : Int) < (l.length : Int) := by omega
      have hd8n : 8 < l.length := by omega
      have HNO := Lib.hid (regok_no (n := n) (l := l) fun h => kl8 h.2)
      clear kl8
      go_wp2_with fail
      go_ret
      exact ⟨ret_bool (decide_eq_false HNO.out).symm, B0.out⟩
  · rw [decide_eq_false kn]
    have HNO := Lib.hid (regok_no (n := n) (l := l) fun h => kn h.1)
    clear kn
    go_wp2_with fail
    go_ret
    exact ⟨ret_bool (decide_eq_false HNO.out).symm, B0.out⟩

end Go.Proofs.Ytlhjhdlpejpooab
