/- The model's RegisterValid. -/
import Derived.Test.YtlhjhdlpejpooabSTk
import Derived.Test.YtlhjhdlpejpooabUpq
import Derived.Stop.LaidErr
namespace Go.Proofs.Ytlhjhdlpejpooab
open Go.RowKit
set_option linter.unusedVariables false
set_option linter.unusedSimpArgs false

/-- A register's variable: its block b holds the time and the slice. -/
structure RgV (W : World) (b : Nat) (n : Int) (s : Value) : Prop where
  c0 : W.cell? ⟨b, 0, none⟩ = some (.int .i64 n)
  c1 : W.cell? ⟨b, 1, none⟩ = some s
theorem RgV.below {W W' : World} {b : Nat} {n : Int} {s : Value} (h : RgV W b n s) (hb : Below W.heap.size W W') : RgV W' b n s :=
  ⟨(hb.cell (World.block_lt_of_cell? W _ h.c0)).trans h.c0, (hb.cell (World.block_lt_of_cell? W _ h.c1)).trans h.c1⟩
theorem RgV.new (w : World) (n : Int) (s : Value) (T : TypeId) : RgV (w.alloc (.cells #[.int .i64 n, s] T)) w.heap.size n s := by
  refine ⟨?_, ?_⟩ <;> (rw [World.cell?_alloc_mark]; rfl)
theorem RgV.lt {W : World} {b : Nat} {n : Int} {s : Value} (h : RgV W b n s) : b < W.heap.size := World.block_lt_of_cell? W _ h.c0

/-- What the loop has seen of a register: the first j tickets are recent and in order. -/
def Seen (n p : Int) (l : List Tic) (j : Nat) : Prop := (∀ t ∈ l.take j, tkvd t ∧ p ≤ t.2 ∧ t.2 ≤ n) ∧ ∀ k, k + 1 < j → TL (l.getD k (0, 0)) (l.getD (k + 1) (0, 0))
theorem takeT (l : List Tic) (j : Nat) (h : j < l.length) : l.take (j + 1) = l.take j ++ [l.getD j (0, 0)] ∧ l.getD j (0, 0) ∈ l := by
  rw [List.getD_eq_getElem?_getD, List.getElem?_eq_getElem h]
  exact ⟨by rw [List.take_add_one, List.getElem?_eq_getElem h]; rfl, List.getElem_mem h⟩
theorem Seen.zero (n p : Int) (l : List Tic) : Seen n p l 0 := ⟨by simp, fun k hk => by omega⟩
theorem Seen.succ {n p : Int} {l : List Tic} {j : Nat} (h : Seen n p l j) (hj : j < l.length) (h1 : tkvd (l.getD j (0, 0))) (h2 : p ≤ (l.getD j (0, 0)).2 ∧ (l.getD j (0, 0)).2 ≤ n) (h3 : 0 < j → TL (l.getD (j - 1) (0, 0)) (l.getD j (0, 0))) : Seen n p l (j + 1) := by
  refine ⟨fun t ht => ?_, fun k hk => ?_⟩
  · rw [(takeT l j hj).1] at ht
    rcases List.mem_append.1 ht with ht | ht
    · exact h.1 t ht
    · rw [List.mem_singleton] at ht; subst ht; exact ⟨h1, h2⟩
  · by_cases hk' : k + 1 = j
    · have := h3 (by omega)
      rw [show k = j - 1 from by omega, show j - 1 + 1 = j from by omega]; exact this
    · exact h.2 k (by omega)
theorem regok_of_seen {n : Int} {l : List Tic} (h : Seen n (n - 10) l l.length) (h1 : 0 ≤ n ∧ n ≤ 999) (h2 : l.length ≤ 8) : regok (n, l) := by
  refine ⟨h1, h2, fun t ht => ?_, pw_of_adj l h.2⟩
  have := h.1 t (by rw [List.take_length]; exact ht)
  exact ⟨this.1, this.2⟩
theorem regok_bad {n p : Int} {l : List Tic} {j : Nat} (hj : j < l.length) (hp : 0 ≤ n ∧ n ≤ 999 → p = n - 10)
    (h : ¬ tkvd (l.getD j (0, 0)) ∨ ¬ (p ≤ (l.getD j (0, 0)).2 ∧ (l.getD j (0, 0)).2 ≤ n) ∨ (0 < j ∧ ¬ TL (l.getD (j - 1) (0, 0)) (l.getD j (0, 0)))) : ¬ regok (n, l) := by
  rintro ⟨h1, h2, h3, h4⟩
  have hm := (takeT l j hj).2
  rcases h with h | h | ⟨h0, h⟩
  · exact h (h3 _ hm).1
  · rw [hp h1] at h; exact h (h3 _ hm).2
  · have := adj_of_pw h4 (j - 1) (by show j - 1 + 1 < l.length; omega)
    rw [show j - 1 + 1 = j from by omega] at this
    exact h this

set_option maxRecDepth 100000 in
set_option maxHeartbeats 4000000 in
theorem sreg_any (n : Int) (v : Value) (l : List Tic) (w : World) (hs : Tics w v l) (hl : l.length ≤ 1048576) : Calls Try.prog 38 #[.agg #[.int .i64 n, v]] w (BoolB w (decide (regok (n, l)))) := by
  obtain ⟨a, c, rfl, hs⟩ := hs
  have HC := Lib.hid hs
  clear hs
  obtain ⟨p, hp⟩ : ∃ p : Int, p = IntKind.i64.wrap (n - 10) := ⟨_, rfl⟩
  have HP : Hid (0 ≤ n ∧ n ≤ 999 → p = n - 10) := Lib.hid fun h => by rw [hp]; exact IntWalk.i64_in _ (by omega)
  have hp' := hp.symm
  clear hp
  have R0 := Lib.hid (RgV.new w n (.slice a l.length c) 28)
  have B0 := Lib.hid ((Below.refl w.heap.size w).alloc (Nat.le_refl _) (.cells #[.int .i64 n, .slice a l.length c] 28))
  go_enter Try.func38, Try.ntmps38
  go_wp2_with fail
  obtain ⟨W0, hW0⟩ : ∃ W0, W0 = w.alloc (.cells #[.int .i64 n, .slice a l.length c] 28) := ⟨_, rfl⟩
  rw [← hW0] at R0 B0 ⊢
  clear hW0
  go_loopw [3] (fun iv wr => ∃ j : Nat, j ≤ l.length ∧ iv = .int .i64 (j : Int) ∧ Hid (Seen n p l j) ∧ Hid (Below w.heap.size w wr) ∧ Hid (RgV wr w.heap.size n (.slice a l.length c))) (fun iv _ => l.length - (intOf iv).toNat)
  case atStart => exact ⟨0, Nat.zero_le _, rfl, Lib.hid (Seen.zero _ _ _), B0, R0⟩
  case round =>
    obtain ⟨j, hj, rfl, HS, HB, HR⟩ := hrel
    obtain ⟨r0, r1⟩ := HR.out
    by_cases hlt : j < l.length
    · have hlt' : (j : Int) < (l.length : Int) := by omega
      obtain ⟨g, o, rfl, hc⟩ := HC.out (by rintro rfl; simp at hlt)
      obtain ⟨d0, d1⟩ := hc j hlt
      have hg := World.block_lt_of_cell? w _ d0
      have e0 := (HB.out.cell (p := ⟨g, o + j * 2, none⟩) hg).trans d0
      have e1 := (HB.out.cell (p := ⟨g, o + j * 2 + 1, none⟩) hg).trans d1
      clear d0 d1
      have HSU := Lib.hid (fun h1 h2 h3 => HS.out.succ hlt h1 h2 h3)
      have HBAD := Lib.hid (fun h => regok_bad (p := p) (n := n) hlt HP.out h)
      obtain ⟨t, ht⟩ : ∃ t, t = l.getD j (0, 0) := ⟨_, rfl⟩
      rw [← ht] at e0 e1 HSU HBAD
      clear ht
      obtain ⟨x, y⟩ := t
      have RT := Lib.hid (RgV.new wr x (.int .i64 y) 38)
      have RR := Lib.hid (HR.out.below ((Below.refl _ _).alloc (Nat.le_refl _) (.cells #[.int .i64 x, .int .i64 y] 38)))
      have HB1 := Lib.hid (HB.out.alloc HB.out.size (.cells #[.int .i64 x, .int .i64 y] 38))
      by_cases k1 : tkvd (x, y)
      · by_cases k2 : p ≤ y ∧ y ≤ n

        · by_cases h0 : j = 0

          · have HS1 := Lib.hid (HSU.out k1 k2 (fun h => by omega))
            have C1 : Hid (∀ W : World, Calls Try.prog 50 #[.agg #[.int .i64 x, .int .i64 y]] W (BoolB W true)) := Lib.hid fun W => by have h := sticket_any (x, y) W; rw [decide_eq_true k1] at h; exact h
            have C2 : Hid (∀ W : World, Calls Try.prog 39 #[.int .i64 y, .int .i64 p, .int .i64 n] W (BoolB W true)) := Lib.hid fun W => (l6In_any y p n W).mono fun e w' h => by rw [decide_eq_true k2] at h; exact ⟨h.1, h.2 ▸ Below.refl _ _⟩
            have hj0 : decide ((0 : Int) < (j : Int)) = false := decide_eq_false (by omega)
            have hj1 : decide (0 < j) = false := decide_eq_false (by omega)
            clear k1 k2 hc h0
            go_wp2_with fail
            obtain ⟨W1, hW1⟩ : ∃ W1, W1 = wr.alloc (.cells #[.int .i64 x, .int .i64 y] 38) := ⟨_, rfl⟩
            rw [← hW1] at RT RR HB1 ⊢
            have q0 := Up.cell RR.out.c0
            have q1 := Up.cell RR.out.c1
            have u0 := Up.cell RT.out.c0
            have u1 := Up.cell RT.out.c1
            clear hW1 e0 e1 r0 r1
            have D1 : Hid (∀ m : Up W1, Calls Try.prog 50 #[.agg #[.int .i64 x, .int .i64 y]] m.w fun e w' => e = .returned (.bool true) ∧ ∃ m' : Up W1, w' = m'.w) := Lib.hid (up_call fun W _ => C1.out W)
            have D2 : Hid (∀ m : Up W1, Calls Try.prog 39 #[.int .i64 y, .int .i64 p, .int .i64 n] m.w fun e w' => e = .returned (.bool true) ∧ ∃ m' : Up W1, w' = m'.w) := Lib.hid (up_call fun W _ => C2.out W)
            refine up_region W1 (Below.refl _ _) (by kernel_rfl) (by kernel_rfl) ?_
            repeat (go_big_quiet_step ((first | (go_at_call 50; exact D1.out _) | (go_at_call 39; exact D2.out _))))
            refine wpQuiet_nil ?_
            rintro _ ⟨⟨W2, hb2⟩, rfl⟩
            have B2 := Lib.hid (HB1.out.trans (hb2.mono HB1.out.size))
            have HR2 := Lib.hid (RR.out.below hb2)
            go_wp2_with fail
            go_roundw
            case rel => exact ⟨j + 1, by omega, by go_num, HS1, B2, HR2⟩
            case measure => simp [intOf]; omega
          · obtain ⟨k, rfl⟩ : ∃ k, j = k + 1 := ⟨j - 1, by omega⟩
            obtain ⟨d0, d1⟩ := hc k (by omega)
            have e2 := (HB.out.cell (p := ⟨g, o + k * 2, none⟩) hg).trans d0
            have e3 := (HB.out.cell (p := ⟨g, o + k * 2 + 1, none⟩) hg).trans d1
            clear d0 d1 hc h0
            obtain ⟨t', ht'⟩ : ∃ t', t' = l.getD k (0, 0) := ⟨_, rfl⟩
            rw [show k + 1 - 1 = k from rfl, ← ht'] at HSU HBAD
            rw [← ht'] at e2 e3
            clear ht'
            obtain ⟨x', y'⟩ := t'
            have hk : (k : Int) < (l.length : Int) := by omega
            have hj0 : decide ((0 : Int) < (k : Int) + 1) = true := decide_eq_true (by omega)
            by_cases k3 : TL (x', y') (x, y)
            · have HS1 := Lib.hid (HSU.out k1 k2 (fun h => k3))
              have C1 : Hid (∀ W : World, Calls Try.prog 50 #[.agg #[.int .i64 x, .int .i64 y]] W (BoolB W true)) := Lib.hid fun W => by have h := sticket_any (x, y) W; rw [decide_eq_true k1] at h; exact h
              have C2 : Hid (∀ W : World, Calls Try.prog 39 #[.int .i64 y, .int .i64 p, .int .i64 n] W (BoolB W true)) := Lib.hid fun W => (l6In_any y p n W).mono fun e w' h => by rw [decide_eq_true k2] at h; exact ⟨h.1, h.2 ▸ Below.refl _ _⟩
              have C3 : Hid (∀ W : World, Calls Try.prog 68 #[.agg #[.int .i64 x', .int .i64 y'], .agg #[.int .i64 x, .int .i64 y]] W (BoolB W true)) := Lib.hid fun W => by have h := sless_any (x', y') (x, y) W; rw [decide_eq_true k3] at h; exact h
              clear k1 k2 k3
              go_wp2_with fail
              obtain ⟨W1, hW1⟩ : ∃ W1, W1 = wr.alloc (.cells #[.int .i64 x, .int .i64 y] 38) := ⟨_, rfl⟩
              have e4 := cell?_alloc_old (.cells #[.int .i64 x, .int .i64 y] 38) e2
              have e5 := cell?_alloc_old (.cells #[.int .i64 x, .int .i64 y] 38) e3
              rw [← hW1] at RT RR HB1 e4 e5 ⊢
              have q0 := Up.cell RR.out.c0
              have q1 := Up.cell RR.out.c1
              have u0 := Up.cell RT.out.c0
              have u1 := Up.cell RT.out.c1
              have v0 := Up.cell e4
              have v1 := Up.cell e5
              clear e2 e3 e4 e5
              clear hW1 e0 e1 r0 r1
              have D1 : Hid (∀ m : Up W1, Calls Try.prog 50 #[.agg #[.int .i64 x, .int .i64 y]] m.w fun e w' => e = .returned (.bool true) ∧ ∃ m' : Up W1, w' = m'.w) := Lib.hid (up_call fun W _ => C1.out W)
              have D2 : Hid (∀ m : Up W1, Calls Try.prog 39 #[.int .i64 y, .int .i64 p, .int .i64 n] m.w fun e w' => e = .returned (.bool true) ∧ ∃ m' : Up W1, w' = m'.w) := Lib.hid (up_call fun W _ => C2.out W)
              have D3 : Hid (∀ m : Up W1, Calls Try.prog 68 #[.agg #[.int .i64 x', .int .i64 y'], .agg #[.int .i64 x, .int .i64 y]] m.w fun e w' => e = .returned (.bool true) ∧ ∃ m' : Up W1, w' = m'.w) := Lib.hid (up_call fun W _ => C3.out W)
              refine up_region W1 (Below.refl _ _) (by kernel_rfl) (by kernel_rfl) ?_
              repeat (go_big_quiet_step ((first | (go_at_call 50; exact D1.out _) | (go_at_call 39; exact D2.out _) | (go_at_call 68; exact D3.out _))))
              refine wpQuiet_nil ?_
              rintro _ ⟨⟨W2, hb2⟩, rfl⟩
              have B2 := Lib.hid (HB1.out.trans (hb2.mono HB1.out.size))
              have HR2 := Lib.hid (RR.out.below hb2)
              go_wp2_with fail
              go_roundw
              case rel => exact ⟨(k + 1) + 1, by omega, by go_num, HS1, B2, HR2⟩
              case measure => simp [intOf]; omega
            · have HF := Lib.hid (decide_eq_false (HBAD.out (.inr (.inr ⟨by omega, k3⟩))))
              have C1 : Hid (∀ W : World, Calls Try.prog 50 #[.agg #[.int .i64 x, .int .i64 y]] W (BoolB W true)) := Lib.hid fun W => by have h := sticket_any (x, y) W; rw [decide_eq_true k1] at h; exact h
              have C2 : Hid (∀ W : World, Calls Try.prog 39 #[.int .i64 y, .int .i64 p, .int .i64 n] W (BoolB W true)) := Lib.hid fun W => (l6In_any y p n W).mono fun e w' h => by rw [decide_eq_true k2] at h; exact ⟨h.1, h.2 ▸ Below.refl _ _⟩
              have C3 : Hid (∀ W : World, Calls Try.prog 68 #[.agg #[.int .i64 x', .int .i64 y'], .agg #[.int .i64 x, .int .i64 y]] W (BoolB W false)) := Lib.hid fun W => by have h := sless_any (x', y') (x, y) W; rw [decide_eq_false k3] at h; exact h
              clear k1 k2 k3
              go_wp2_with fail
              obtain ⟨W1, hW1⟩ : ∃ W1, W1 = wr.alloc (.cells #[.int .i64 x, .int .i64 y] 38) := ⟨_, rfl⟩
              have e4 := cell?_alloc_old (.cells #[.int .i64 x, .int .i64 y] 38) e2
              have e5 := cell?_alloc_old (.cells #[.int .i64 x, .int .i64 y] 38) e3
              rw [← hW1] at RT RR HB1 e4 e5 ⊢
              have q0 := Up.cell RR.out.c0
              have q1 := Up.cell RR.out.c1
              have u0 := Up.cell RT.out.c0
              have u1 := Up.cell RT.out.c1
              have v0 := Up.cell e4
              have v1 := Up.cell e5
              clear e2 e3 e4 e5
              clear hW1 e0 e1 r0 r1
              have D1 : Hid (∀ m : Up W1, Calls Try.prog 50 #[.agg #[.int .i64 x, .int .i64 y]] m.w fun e w' => e = .returned (.bool true) ∧ ∃ m' : Up W1, w' = m'.w) := Lib.hid (up_call fun W _ => C1.out W)
              have D2 : Hid (∀ m : Up W1, Calls Try.prog 39 #[.int .i64 y, .int .i64 p, .int .i64 n] m.w fun e w' => e = .returned (.bool true) ∧ ∃ m' : Up W1, w' = m'.w) := Lib.hid (up_call fun W _ => C2.out W)
              have D3 : Hid (∀ m : Up W1, Calls Try.prog 68 #[.agg #[.int .i64 x', .int .i64 y'], .agg #[.int .i64 x, .int .i64 y]] m.w fun e w' => e = .returned (.bool false) ∧ ∃ m' : Up W1, w' = m'.w) := Lib.hid (up_call fun W _ => C3.out W)
              refine up_region W1 (Below.refl _ _) (by kernel_rfl) (by kernel_rfl) ?_
              repeat (go_big_quiet_step ((first | (go_at_call 50; exact D1.out _) | (go_at_call 39; exact D2.out _) | (go_at_call 68; exact D3.out _))))
              refine wpQuiet_nil ?_
              rintro _ ⟨⟨W2, hb2⟩, rfl⟩
              have B2 := Lib.hid (HB1.out.trans (hb2.mono HB1.out.size))
              go_wp2_with fail
              go_ret
              exact ⟨ret_bool HF.out.symm, B2.out⟩
        · have HF := Lib.hid (decide_eq_false (HBAD.out (.inr (.inl k2))))
          have C1 : Hid (∀ W : World, Calls Try.prog 50 #[.agg #[.int .i64 x, .int .i64 y]] W (BoolB W true)) := Lib.hid fun W => by have h := sticket_any (x, y) W; rw [decide_eq_true k1] at h; exact h
          have C2 : Hid (∀ W : World, Calls Try.prog 39 #[.int .i64 y, .int .i64 p, .int .i64 n] W (BoolB W false)) := Lib.hid fun W => (l6In_any y p n W).mono fun e w' h => by rw [decide_eq_false k2] at h; exact ⟨h.1, h.2 ▸ Below.refl _ _⟩
          clear k1 k2 hc
          go_wp2_with fail
          obtain ⟨W1, hW1⟩ : ∃ W1, W1 = wr.alloc (.cells #[.int .i64 x, .int .i64 y] 38) := ⟨_, rfl⟩
          rw [← hW1] at RT RR HB1 ⊢
          have q0 := Up.cell RR.out.c0
          have q1 := Up.cell RR.out.c1
          have u0 := Up.cell RT.out.c0
          have u1 := Up.cell RT.out.c1
          clear hW1 e0 e1 r0 r1
          have D1 : Hid (∀ m : Up W1, Calls Try.prog 50 #[.agg #[.int .i64 x, .int .i64 y]] m.w fun e w' => e = .returned (.bool true) ∧ ∃ m' : Up W1, w' = m'.w) := Lib.hid (up_call fun W _ => C1.out W)
          have D2 : Hid (∀ m : Up W1, Calls Try.prog 39 #[.int .i64 y, .int .i64 p, .int .i64 n] m.w fun e w' => e = .returned (.bool false) ∧ ∃ m' : Up W1, w' = m'.w) := Lib.hid (up_call fun W _ => C2.out W)
          refine up_region W1 (Below.refl _ _) (by kernel_rfl) (by kernel_rfl) ?_
          repeat (go_big_quiet_step ((first | (go_at_call 50; exact D1.out _) | (go_at_call 39; exact D2.out _))))
          refine wpQuiet_nil ?_
          rintro _ ⟨⟨W2, hb2⟩, rfl⟩
          have B2 := Lib.hid (HB1.out.trans (hb2.mono HB1.out.size))
          go_wp2_with fail
          go_ret
          exact ⟨ret_bool HF.out.symm, B2.out⟩
      · have HF := Lib.hid (decide_eq_false (HBAD.out (.inl k1)))
        have C1 : Hid (∀ W : World, Calls Try.prog 50 #[.agg #[.int .i64 x, .int .i64 y]] W (BoolB W false)) := Lib.hid fun W => by have h := sticket_any (x, y) W; rw [decide_eq_false k1] at h; exact h
        clear k1 hc
        go_wp2_with fail
        obtain ⟨W1, hW1⟩ : ∃ W1, W1 = wr.alloc (.cells #[.int .i64 x, .int .i64 y] 38) := ⟨_, rfl⟩
        rw [← hW1] at RT RR HB1 ⊢
        have q0 := Up.cell RR.out.c0
        have q1 := Up.cell RR.out.c1
        have u0 := Up.cell RT.out.c0
        have u1 := Up.cell RT.out.c1
        clear hW1 e0 e1 r0 r1
        have D1 : Hid (∀ m : Up W1, Calls Try.prog 50 #[.agg #[.int .i64 x, .int .i64 y]] m.w fun e w' => e = .returned (.bool false) ∧ ∃ m' : Up W1, w' = m'.w) := Lib.hid (up_call fun W _ => C1.out W)
        refine up_region W1 (Below.refl _ _) (by kernel_rfl) (by kernel_rfl) ?_
        repeat (go_big_quiet_step (((go_at_call 50; exact D1.out _))))
        refine wpQuiet_nil ?_
        rintro _ ⟨⟨W2, hb2⟩, rfl⟩
        have B2 := Lib.hid (HB1.out.trans (hb2.mono HB1.out.size))
        go_wp2_with fail
        go_ret
        exact ⟨ret_bool HF.out.symm, B2.out⟩
    · have hj' : j = l.length := by omega
      have hnl : ¬ (j : Int) < (l.length : Int) := by omega
      have HR1 := Lib.hid (fun h1 h2 => regok_of_seen (n := n) (l := l) (by have h := HS.out; rw [hj', HP.out h1] at h; exact h) h1 h2)
      by_cases h1 : 0 ≤ n ∧ n ≤ 999
      · by_cases h2 : l.length ≤ 8

        · have C9 : Hid (∀ W : World, Calls Try.prog 39 #[.int .i64 n, .int .i64 0, .int .i64 999] W fun e w' => e = .returned (.bool true) ∧ W = w') := Lib.hid fun W => by have h := l6In_any n 0 999 W; rw [decide_eq_true h1] at h; exact h
          have HF := Lib.hid (decide_eq_true (HR1.out h1 h2))
          have hd : decide ((l.length : Int) ≤ 8) = true := decide_eq_true (by omega)
          clear h1 hj
          go_wp2_with (go_at_call 39; (with_reducible refine (C9.out _).mono ?_); rintro e w2 ⟨rfl, rfl⟩)
          go_ret
          exact ⟨ret_bool HF.out.symm, HB.out⟩
        · have C9 : Hid (∀ W : World, Calls Try.prog 39 #[.int .i64 n, .int .i64 0, .int .i64 999] W fun e w' => e = .returned (.bool true) ∧ W = w') := Lib.hid fun W => by have h := l6In_any n 0 999 W; rw [decide_eq_true h1] at h; exact h
          have HF := Lib.hid (decide_eq_false (fun h : regok (n, l) => h2 h.2.1))
          have hd : decide ((l.length : Int) ≤ 8) = false := decide_eq_false (by omega)
          clear h1 hj
          go_wp2_with (go_at_call 39; (with_reducible refine (C9.out _).mono ?_); rintro e w2 ⟨rfl, rfl⟩)
          go_ret
          exact ⟨ret_bool HF.out.symm, HB.out⟩
      · have C9 : Hid (∀ W : World, Calls Try.prog 39 #[.int .i64 n, .int .i64 0, .int .i64 999] W fun e w' => e = .returned (.bool false) ∧ W = w') := Lib.hid fun W => by have h := l6In_any n 0 999 W; rw [decide_eq_false h1] at h; exact h
        have HF := Lib.hid (decide_eq_false (fun h : regok (n, l) => h1 h.1))
        clear h1 hj
        go_wp2_with (go_at_call 39; (with_reducible refine (C9.out _).mono ?_); rintro e w2 ⟨rfl, rfl⟩)
        go_ret
        exact ⟨ret_bool HF.out.symm, HB.out⟩

end Go.Proofs.Ytlhjhdlpejpooab
