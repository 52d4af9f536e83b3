/- A drawn state of loss detection. -/
import Derived.Test.YtpbkhlkhnjmacaaDrLd
import Derived.Test.YtpbkhlkhnjmacaaLnw
import Derived.Test.YtpbkhlkhnjmacaaSLs
import Derived.Test.YtpbkhlkhnjmacaaSLa
import Derived.Deep.RegionHeld3
import Derived.StillTailTactics
import Derived.Deep.CutBlock
import Derived.Deep.DeepCutAuto
namespace Go.Proofs.Ytpbkhlkhnjmacaa
open Go.RowKit
set_option linter.unusedVariables false
set_option linter.unusedSimpArgs false

theorem LD.nilok {w W : World} {b k rb ob : Nat} {n g : Int} {s : Value} {l : List Pk} (h : LD w W b k rb ob n g s l) : NilOk s := .inl h.ne.1
theorem OwnPk.some {w : World} {B : Nat} {v : Value} {l : List Pk} (h : OwnPk w B v l) (hl : l ≠ []) : v.ownBlock ≠ none := by
  obtain ⟨_, ⟨_, h0⟩ | ⟨g, c, cur, rfl, _⟩⟩ := h
  · exact absurd (List.length_eq_zero_iff.1 h0) hl
  · simp [Value.ownBlock]
theorem lsend_draw {n g t z : Int} {l : List Pk} (hn : 0 ≤ n ∧ n ≤ 900) (hl : l.length ≤ 12) : n ≤ (lsend (n, l, g) t z).1.1 ∧ (lsend (n, l, g) t z).1.1 ≤ n + 1 ∧ (lsend (n, l, g) t z).1.2.2 = g ∧ (lsend (n, l, g) t z).1.2.1.length ≤ 12 ∧ (lsend (n, l, g) t z).1.2.1 ≠ [] := by
  by_cases h : lfull (n, l, g) t
  · rw [lsend_no h]
    refine ⟨Int.le_refl _, by show n ≤ n + 1; omega, rfl, hl, fun e => ?_⟩
    have e' : l = [] := e
    rcases h with h | h | ⟨h, _⟩
    · have : 999 < n := h; omega
    · have : 12 ≤ l.length := h; rw [e'] at this; simp at this
    · have : 0 < l.length := h; rw [e'] at this; simp at this
  · rw [lsend_yes h]
    refine ⟨by show n ≤ n + 1; omega, Int.le_refl _, rfl, ?_, by simp⟩
    have : l.length < 12 := by
      rcases Nat.lt_or_ge l.length 12 with k | k
      · exact k
      · exact absurd (.inr (.inl k)) h
    show (l ++ [(n, t, z)]).length ≤ 12
    simp; omega
theorem lack_draw {n g x t d : Int} {l : List Pk} (hg : -1 ≤ g ∧ g ≤ 1000) (hx : 0 ≤ x ∧ x ≤ 1000) (hl : l.length ≤ 12) : (lack (n, l, g) [(x, x)] t d).1.1 = n ∧ (lack (n, l, g) [(x, x)] t d).1.2.1.length ≤ 12 ∧ (lack (n, l, g) [(x, x)] t d).1.2.2 = topR g [(x, x)] ∧ topR g [(x, x)] = max g x :=
  ⟨rfl, Nat.le_trans (List.length_filter_le _ _) hl, rfl, rfl⟩

set_option maxRecDepth 100000 in
set_option maxHeartbeats 16000000 in
theorem drls_any (b k : Nat) (w : World) (R : Rdr w b k) (hk : k ≤ 890000) :
    Calls Try.prog 40 #[.pointer (some ⟨b, 0, none⟩)] w (DrewLs w b k) := by
  have hbl : b < w.heap.size := R.1
  have U0 := Lib.hid ((Below.refl w.heap.size w).alloc (Nat.le_refl _) (.cells #[.int .i64 0, .slice none 0 0, .int .i64 0] 25))
  have R0 := Lib.hid (R.below U0.out)
  have Z0 := Lib.hid (C3.new w (.int .i64 0) (.slice none 0 0) (.int .i64 0) 25)
  have F0 := Lib.hid (Soft.new w #[.int .i64 0, .slice none 0 0, .int .i64 0] 25)
  have HS0 := Lib.hid (show (w.alloc (.cells #[.int .i64 0, .slice none 0 0, .int .i64 0] 25)).heap.size = w.heap.size + 1 by simp)
  clear R
  go_enter Try.func40, Try.ntmps40
  go_wp2_with fail
  refine (snew_any _).mono ?_
  rintro e w1 ⟨v1, rfl, ho1, hn1, hb1⟩
  rw [HS0.out] at ho1
  have D0 := Lib.hid (LD.start (w1 := w1) 25 ho1 hn1 (Z0.out.below hb1) (F0.out.below hb1 Z0.out.lt) (U0.out.trans (hb1.mono U0.out.size)) hbl (R0.out.below hb1))
  obtain ⟨a1, c1, rfl⟩ := OwnPk.shape ho1
  clear ho1 hn1 hb1
  go_upto_region 2 with fail
  generalize w1.alloc (.cells #[.int .i64 0, .slice a1 ([] : List Pk).length c1, .int .i64 (-1)] 25) = W0 at D0 ⊢
  generalize w1.heap.size = ob at D0 ⊢
  clear R0 Z0 F0 U0 HS0
  generalize hg0 : (Value.slice a1 ([] : List Pk).length c1) = s0 at D0
  clear hg0
  go_wp2_with fail
  refine (pick_rdr b k _ _ D0.out.rd (by omega) (by omega) (by omega)).mono ?_
  rintro e w2 ⟨t0, ht0, rfl, hg1, R1⟩
  have D1 := Lib.hid (D0.out.pick hg1 R1)
  clear hg1 R1 D0
  go_wp2_with fail
  go_loopw [4, 5] (fun tv iv wr => ∃ (j : Nat) (t n g : Int) (s : Value) (l : List Pk), j ≤ 18 ∧ iv = .int .i64 (j : Int) ∧ tv = .int .i64 t ∧ Hid (0 ≤ t ∧ t ≤ 20 + 4 * j ∧ 0 ≤ n ∧ n ≤ j ∧ -1 ≤ g ∧ g ≤ 100 ∧ l.length ≤ 12) ∧ Hid (LD w wr b (k + 1 + 6 * j) w.heap.size ob n g s l)) (fun _ iv _ => 19 - (intOf iv).toNat)
  case atStart => exact ⟨0, t0, 0, -1, s0, [], by omega, rfl, rfl, Lib.hid ⟨by omega, by omega, by omega, by omega, by omega, by omega, by simp⟩, D1⟩
  case round =>
    obtain ⟨j, t, n, g, s, l, hj, rfl, rfl, HK, HD⟩ := hrel
    obtain ⟨h1, h2, h3, h4, h5, h6, h7⟩ := HK.out
    clear D1 HK
    go_wp2_with fail
    refine (pick_rdr b _ _ _ HD.out.rd (by omega) (by omega) (by omega)).mono ?_
    rintro e w2 ⟨y, hy, rfl, hg2, R2⟩
    have HD2 := Lib.hid (HD.out.pick hg2 R2)
    clear hg2 R2 HD
    by_cases hlt : j < y
    · have hlt' : (j : Int) < (y : Int) := by omega
      have hdl := decide_eq_true hlt'
      obtain ⟨ax, cx, rfl⟩ := ownsRow_shape HD2.out.own
      obtain ⟨q0, q1, q2⟩ := HD2.out.out
      go_upto_region 6 with fail
      go_cut [6] (fun xv wx => ∃ (xb : Nat) (n2 g2 : Int) (v : Value) (m : List Pk), xv = .pointer (some ⟨xb, 0, none⟩) ∧ Hid (0 ≤ n2 ∧ n2 ≤ j + 1 ∧ m.length ≤ 12 ∧ g2 = g) ∧ Hid (LX w wx w.heap.size ob xb n2 g2 v m) ∧ Hid (LD w wx b (k + 1 + 6 * j + 1 + 1) w.heap.size ob n g (.slice ax l.length cx) l))
      case first =>
        have UZ : Below w2.heap.size w2 (w2.alloc (.cells #[.int .i64 0, .slice none 0 0, .int .i64 0] 25)) := (Below.refl _ _).alloc (Nat.le_refl _) _
        have Dd := Lib.hid HD2.out.drew
        have De := Lib.hid (HD2.out.below UZ.drew)
        have Zx := Lib.hid ((C3.new w2 (.int .i64 0) (.slice none 0 0) (.int .i64 0) 25).below (Below.refl _ _).drew)
        have Zf := Lib.hid ((Soft.new w2 #[.int .i64 0, .slice none 0 0, .int .i64 0] 25).below (Below.refl _ _).drew (by simp))
        have hb2 : Hid (b < w2.heap.size ∧ w.heap.size < w2.heap.size ∧ ob < w2.heap.size ∧ w.heap.size ≤ w2.heap.size) := Lib.hid ⟨HD2.out.rd.1, HD2.out.zer.lt, HD2.out.out.lt, HD2.out.gr.size⟩
        have hnb : Hid ((Value.slice ax l.length cx).ownBlock ≠ some w2.heap.size) := Lib.hid fun e => by have := (World.ownsRow.lt HD2.out.own _ e).2; omega
        have hkk : k + 1 + 6 * j + 1 ≤ 1000000 := by omega
        have hlo : (1 : Int) ≤ 99 := by omega
        have hhi : (99 : Int) ≤ 1000000 := by omega
        have hnn : -2000 ≤ n ∧ n ≤ 2000 := by omega
        have hll : l.length ≤ 1048576 := by omega
        have HN := Lib.hid (show 0 ≤ n ∧ n ≤ 900 by omega)
        have H12 := Lib.hid h7
        have HJ := Lib.hid h4
        have kd := And.intro (And.intro Dd.out.out.c0 Dd.out.out.c1) Dd.out.out.c2
        have ke := And.intro (And.intro De.out.out.c0 De.out.out.c1) De.out.out.c2
        go_region_held3 (fun w' => (w'.cell? ⟨ob, 0, none⟩ = some (.int .i64 n) ∧ w'.cell? ⟨ob, 1, none⟩ = some (.slice ax l.length cx)) ∧ w'.cell? ⟨ob, 2, none⟩ = some (.int .i64 g)) (with_reducible first | assumption | exact kd | exact ke | exact k9b | exact k9c)
          ((first
            | (go_at_call 42; (with_reducible refine (pick_rdr _ _ _ _ Dd.out.rd hlo hhi hkk).mono ?_); rintro e w8 ⟨z, hz, rfl, hg8, hR8⟩; have D8 := Lib.hid (Dd.out.pick hg8 hR8); have k8 := And.intro (And.intro D8.out.out.c0 D8.out.out.c1) D8.out.out.c2; have D8a := Lib.hid (D8.out.below ((Below.refl _ _).alloc (Nat.le_refl _) (.cells #[.int .i64 0, .slice none 0 0, .int .i64 0] 25))); have k8a := And.intro (And.intro D8a.out.out.c0 D8a.out.out.c1) D8a.out.out.c2; have hs8 : Hid (w2.heap.size ≤ w8.heap.size) := Lib.hid hg8.size; have hw1 : IntKind.i64.wrap (1 + (z : Int)) = 1 + (z : Int) := IntWalk.i64_in _ (by omega))
            | (go_at_call 42; (with_reducible refine (pick_rdr _ _ _ _ De.out.rd hlo hhi hkk).mono ?_); rintro e w8 ⟨z, hz, rfl, hg8, hR8⟩; have D8 := Lib.hid (De.out.pick hg8 hR8); have k8 := And.intro (And.intro D8.out.out.c0 D8.out.out.c1) D8.out.out.c2; have hs8 : Hid (w2.heap.size < w8.heap.size) := Lib.hid (by have := hg8.size; simp at this; omega); have Z8 := Lib.hid (Zx.out.kept hg8 (fun e => by have := Option.some.inj e; have := hb2.out; omega)); have G8 := Lib.hid (Zf.out.kept hg8 Zx.out.lt (fun e => by have := Option.some.inj e; have := hb2.out; omega)); have hw1 : IntKind.i64.wrap (1 + (z : Int)) = 1 + (z : Int) := IntWalk.i64_in _ (by omega))
            | (go_at_call 47; (with_reducible refine (slsend_any n g t _ _ l (w8.alloc (.cells #[.int .i64 0, .slice none 0 0, .int .i64 0] 25)) D8a.out.own.pks D8a.out.nilok hll hnn).mono ?_); rintro e w9 ⟨v9, rfl, hO9, hb9⟩; have LW := Lib.hid (lsend_draw (g := g) (t := t) (z := 1 + (z : Int)) HN.out H12.out); obtain ⟨r9, hr9⟩ : ∃ r, lsend (n, l, g) t (1 + (z : Int)) = r := ⟨_, rfl⟩; rw [hr9] at LW hO9 ⊢; clear hr9; obtain ⟨⟨rn, rl, rg⟩, ri, rb⟩ := r9; simp only at LW hO9 ⊢; have hn9 := OwnPk.some hO9 LW.out.2.2.2.2; have D9 := Lib.hid (D8a.out.below hb9); have Z9 := Lib.hid ((C3.new w8 (.int .i64 0) (.slice none 0 0) (.int .i64 0) 25).below hb9); have G9 := Lib.hid ((Soft.new w8 #[.int .i64 0, .slice none 0 0, .int .i64 0] 25).below hb9 (by simp)); have hE := Lib.hid (LX.early (n1 := rn) (g1 := rg) D9.out Z9.out (by have := hs8.out; have := hb2.out; simp; omega) ⟨(by have := hs8.out; have := hb2.out; simp; omega), (by have := hs8.out; have := hb2.out; simp; omega)⟩ hO9 hn9 ⟨(by have := hs8.out; have := hb2.out; omega), (by simp), (by have := hs8.out; have := hb2.out; omega), (by have := hs8.out; have := hb2.out; omega), (fun e => by have := (World.ownsRow.lt D8.out.own _ e).2; omega)⟩); obtain ⟨a9, c9, rfl⟩ := ownsRow_shape hO9; have k9 := And.intro (And.intro D9.out.out.c0 D9.out.out.c1) D9.out.out.c2; have z0 := Z9.out.c0; have z1 := Z9.out.c1; have z2 := Z9.out.c2; have g0 := G9.out 0; have g1 := G9.out 1; have g2 := G9.out 2; have k9b := And.intro (And.intro hE.out.2.out.c0 hE.out.2.out.c1) hE.out.2.out.c2)
            | (go_at_call 47; (with_reducible refine (slsend_any n g t _ _ l w8 D8.out.own.pks D8.out.nilok hll hnn).mono ?_); rintro e w9 ⟨v9, rfl, hO9, hb9⟩; have LW := Lib.hid (lsend_draw (g := g) (t := t) (z := 1 + (z : Int)) HN.out H12.out); obtain ⟨r9, hr9⟩ : ∃ r, lsend (n, l, g) t (1 + (z : Int)) = r := ⟨_, rfl⟩; rw [hr9] at LW hO9 ⊢; clear hr9; obtain ⟨⟨rn, rl, rg⟩, ri, rb⟩ := r9; simp only at LW hO9 ⊢; have hn9 := OwnPk.some hO9 LW.out.2.2.2.2; have D9 := Lib.hid (D8.out.below hb9); have Z9 := Lib.hid (Z8.out.below hb9); have G9 := Lib.hid (G8.out.below hb9 Z8.out.lt); have hE := Lib.hid (LX.early (n1 := rn) (g1 := rg) D9.out Z9.out (by have := hs8.out; have := hb2.out; omega) ⟨(by have := hs8.out; have := hb2.out; omega), (by have := hs8.out; have := hb2.out; omega)⟩ hO9 hn9 ⟨hb2.out.2.2.2, hs8.out, (by have := hb2.out; omega), (by have := hb2.out; omega), hnb.out⟩); obtain ⟨a9, c9, rfl⟩ := ownsRow_shape hO9; have k9 := And.intro (And.intro D9.out.out.c0 D9.out.out.c1) D9.out.out.c2; have z0 := Z9.out.c0; have z1 := Z9.out.c1; have z2 := Z9.out.c2; have g0 := G9.out 0; have g1 := G9.out 1; have g2 := G9.out 2; have k9b := And.intro (And.intro hE.out.2.out.c0 hE.out.2.out.c1) hE.out.2.out.c2)
            | (go_at_call 47; (with_reducible refine (slsend_any n g t _ _ l w8 D8.out.own.pks D8.out.nilok hll hnn).mono ?_); rintro e w9 ⟨v9, rfl, hO9, hb9⟩; have LW := Lib.hid (lsend_draw (g := g) (t := t) (z := 1 + (z : Int)) HN.out H12.out); obtain ⟨r9, hr9⟩ : ∃ r, lsend (n, l, g) t (1 + (z : Int)) = r := ⟨_, rfl⟩; rw [hr9] at LW hO9 ⊢; clear hr9; obtain ⟨⟨rn, rl, rg⟩, ri, rb⟩ := r9; simp only at LW hO9 ⊢; have hn9 := OwnPk.some hO9 LW.out.2.2.2.2; have D9 := Lib.hid (D8.out.below hb9); have D9a := Lib.hid (D9.out.below ((Below.refl _ _).alloc (Nat.le_refl _) (.cells #[.int .i64 0, .slice none 0 0, .int .i64 0] 25))); have k9c := And.intro (And.intro D9a.out.out.c0 D9a.out.out.c1) D9a.out.out.c2; have hE := Lib.hid (LX.late (n1 := rn) (g1 := rg) D9.out (by have := hs8.out; have := hb2.out; omega) ⟨(by have := hs8.out; have := hb2.out; omega), (by have := hs8.out; have := hb2.out; omega)⟩ hO9 hn9 25); obtain ⟨a9, c9, rfl⟩ := ownsRow_shape hO9; have k9 := And.intro (And.intro D9.out.out.c0 D9.out.out.c1) D9.out.out.c2; have k9b := And.intro (And.intro hE.out.2.out.c0 hE.out.2.out.c1) hE.out.2.out.c2)))
        all_goals
          go_wp2_with fail
          go_meet
          exact ⟨_, _, _, _, _, rfl, Lib.hid ⟨by have := LW.out.1; have := HN.out; omega, by have := LW.out.2.1; have := HJ.out; omega, LW.out.2.2.2.1, LW.out.2.2.1⟩, Lib.hid hE.out.1, Lib.hid hE.out.2⟩
      case rest =>
        obtain ⟨xb, n2, g2, v, m, rfl, HB2, HX, HD3⟩ := hcut
        obtain ⟨av, cv, rfl⟩ := ownsRow_shape HX.out.own
        obtain ⟨p1, p2, p3, rfl⟩ := HB2.out
        obtain ⟨x0, x1, x2⟩ := HX.out.x
        obtain ⟨q0, q1, q2⟩ := HD3.out.out
        have e0 := HD3.out.of 0
        have e1 := HD3.out.of 1
        have e2 := HD3.out.of 2
        have HD4 := Lib.hid (HD3.out.store (n' := n2) (g' := g2) HX.out.own HX.out.ne)
        clear HD2 HX HD3 HB2
        go_upto_region 8 with fail
        generalize ((wc.setCell ⟨ob, 0, none⟩ (.int .i64 n2)).setCell ⟨ob, 1, none⟩ (.slice av m.length cv)).setCell ⟨ob, 2, none⟩ (.int .i64 g2) = W4 at HD4 ⊢
        clear x0 x1 x2 q0 q1 q2 e0 e1 e2
        go_wp2_with fail
        refine (pick_rdr b _ _ _ HD4.out.rd (by omega) (by omega) (by omega)).mono ?_
        rintro e w5 ⟨z4, hz4, rfl, hg5, R5⟩
        have HD5 := Lib.hid (HD4.out.pick hg5 R5)
        have hwt : IntKind.i64.wrap (t + (z4 : Int)) = t + (z4 : Int) := IntWalk.i64_in _ (by omega)
        clear hg5 R5 HD4
        go_wp2_with fail
        refine (pick_rdr b _ _ _ HD5.out.rd (by omega) (by omega) (by omega)).mono ?_
        rintro e w6 ⟨z5, hz5, rfl, hg6, R6⟩
        have HD6 := Lib.hid (HD5.out.pick hg6 R6)
        clear hg6 R6 HD5
        obtain ⟨q0, q1, q2⟩ := HD6.out.out
        obtain ⟨t2, ht2⟩ : ∃ t2, t + (z4 : Int) = t2 := ⟨_, rfl⟩
        rw [ht2]
        have ht3 : 0 ≤ t2 := by omega
        have ht4 : t2 ≤ 20 + 4 * ((j : Int) + 1) := by omega
        clear ht2 hwt
        have hwj : IntKind.i64.wrap ((j : Int) + 1) = ((j + 1 : Nat) : Int) := by rw [IntWalk.i64_in _ (by omega)]; omega
        by_cases hz : z5 = 0 ∧ 0 < n2
        · obtain ⟨hz0, hn0⟩ := hz
          have hb0 : ((z5 : Int) == 0) = true := by rw [hz0]; rfl
          have hdn := decide_eq_true hn0
          clear hz0
          go_wp2_with fail
          refine (pick_rdr b _ _ _ HD6.out.rd (by omega) (by omega) (by omega)).mono ?_
          rintro e w7 ⟨x', hx', rfl, hg7, R7⟩
          have HD7 := Lib.hid (HD6.out.pick hg7 R7)
          obtain ⟨x, hxx⟩ : ∃ x : Int, (x' : Int) = x := ⟨_, rfl⟩
          rw [hxx] at hx' ⊢
          have hx0 : 0 ≤ x := by omega
          clear hg7 R7 HD6 q0 q1 q2 hxx
          obtain ⟨q0, q1, q2⟩ := HD7.out.out
          go_upto_region 11 with fail
          go_cut [10] (fun xv wx => ∃ (xb : Nat) (n3 g3 : Int) (v : Value) (l3 : List Pk), xv = .pointer (some ⟨xb, 0, none⟩) ∧ Hid (0 ≤ n3 ∧ n3 ≤ j + 1 ∧ l3.length ≤ 12 ∧ -1 ≤ g3 ∧ g3 ≤ 100) ∧ Hid (LX w wx w.heap.size ob xb n3 g3 v l3) ∧ Hid (LD w wx b (k + 1 + 6 * j + 1 + 1 + 1 + 1 + 1 + 1) w.heap.size ob n2 g2 (.slice av m.length cv) m))
          case first =>
            have HS7 : Hid (b < w7.heap.size ∧ w.heap.size < w7.heap.size ∧ ob < w7.heap.size ∧ b < w.heap.size) := Lib.hid ⟨HD7.out.rd.1, HD7.out.zer.lt, HD7.out.out.lt, HD7.out.ord.1⟩
            have HSL : Hid (∀ q, (Value.slice av m.length cv).ownBlock = some q → q < w7.heap.size) := Lib.hid fun q e => (World.ownsRow.lt HD7.out.own q e).2
            have hkk : k + 1 + 6 * j + 1 + 1 + 1 + 1 + 1 ≤ 1000000 := by omega
            have hlo : (1 : Int) ≤ 30 := by omega
            have hhi : (30 : Int) ≤ 1000000 := by omega
            have hml : m.length ≤ 1000 := by omega
            have h1r : ([(x, x)] : List (Int × Int)).length ≤ 1048576 := by simp
            have HG := Lib.hid (show -1 ≤ g2 ∧ g2 ≤ 1000 by omega)
            have HX7 := Lib.hid (show 0 ≤ x ∧ x ≤ 1000 by omega)
            have HM := Lib.hid (show m.length ≤ 12 by omega)
            have HBN := Lib.hid (show 0 ≤ n2 ∧ n2 ≤ j + 1 ∧ -1 ≤ g2 ∧ g2 ≤ 100 ∧ x ≤ 100 by omega)
            have htop : -2000 ≤ topR g2 [(x, x)] ∧ topR g2 [(x, x)] ≤ 2000 := by
              have e : topR g2 [(x, x)] = max g2 x := rfl
              omega
            have htt : -2000 ≤ t2 ∧ t2 ≤ 2000 := by omega
            have D_ := Lib.hid HD7.out.drew
            have k_ := Lib.hid (And.intro (And.intro D_.out.out.c0 D_.out.out.c1) D_.out.out.c2)
            have E_B := Lib.hid (HD7.out.below (below_al _ (.cells #[.int .i64 x, .int .i64 x] 48)))
            have D_B := Lib.hid E_B.out.drew
            have FB_B : Hid (One (w7.alloc (.cells #[.int .i64 x, .int .i64 x] 48)) (w7.heap.size) x) := Lib.hid (One.new w7 x 48)
            have k_B := Lib.hid (And.intro (And.intro D_B.out.out.c0 D_B.out.out.c1) D_B.out.out.c2)
            have E_A := Lib.hid (HD7.out.below (below_al _ (.cells #[.int .i64 0, .slice none 0 0, .int .i64 0] 25)))
            have D_A := Lib.hid E_A.out.drew
            have FA_A : Hid (Emp (w7.alloc (.cells #[.int .i64 0, .slice none 0 0, .int .i64 0] 25)) (w7.heap.size)) := Lib.hid (Emp.new w7 25)
            have k_A := Lib.hid (And.intro (And.intro D_A.out.out.c0 D_A.out.out.c1) D_A.out.out.c2)
            have E_BA := Lib.hid (E_B.out.below (below_al _ (.cells #[.int .i64 0, .slice none 0 0, .int .i64 0] 25)))
            have D_BA := Lib.hid E_BA.out.drew
            have FB_BA : Hid (One ((w7.alloc (.cells #[.int .i64 x, .int .i64 x] 48)).alloc (.cells #[.int .i64 0, .slice none 0 0, .int .i64 0] 25)) (w7.heap.size) x) := Lib.hid (FB_B.out.below (below_al _ (.cells #[.int .i64 0, .slice none 0 0, .int .i64 0] 25)))
            have FA_BA : Hid (Emp ((w7.alloc (.cells #[.int .i64 x, .int .i64 x] 48)).alloc (.cells #[.int .i64 0, .slice none 0 0, .int .i64 0] 25)) (w7.heap.size + 1)) := Lib.hid (by rw [← (show (w7.alloc (.cells #[.int .i64 x, .int .i64 x] 48)).heap.size = w7.heap.size + 1 by simp)]; exact Emp.new (w7.alloc (.cells #[.int .i64 x, .int .i64 x] 48)) 25)
            have k_BA := Lib.hid (And.intro (And.intro D_BA.out.out.c0 D_BA.out.out.c1) D_BA.out.out.c2)
            have E_AB := Lib.hid (E_A.out.below (below_al _ (.cells #[.int .i64 x, .int .i64 x] 48)))
            have D_AB := Lib.hid E_AB.out.drew
            have FA_AB : Hid (Emp ((w7.alloc (.cells #[.int .i64 0, .slice none 0 0, .int .i64 0] 25)).alloc (.cells #[.int .i64 x, .int .i64 x] 48)) (w7.heap.size)) := Lib.hid (FA_A.out.below (below_al _ (.cells #[.int .i64 x, .int .i64 x] 48)))
            have FB_AB : Hid (One ((w7.alloc (.cells #[.int .i64 0, .slice none 0 0, .int .i64 0] 25)).alloc (.cells #[.int .i64 x, .int .i64 x] 48)) (w7.heap.size + 1) x) := Lib.hid (by rw [← (show (w7.alloc (.cells #[.int .i64 0, .slice none 0 0, .int .i64 0] 25)).heap.size = w7.heap.size + 1 by simp)]; exact One.new (w7.alloc (.cells #[.int .i64 0, .slice none 0 0, .int .i64 0] 25)) x 48)
            have k_AB := Lib.hid (And.intro (And.intro D_AB.out.out.c0 D_AB.out.out.c1) D_AB.out.out.c2)
            go_region_held3 (fun w' => (w'.cell? ⟨ob, 0, none⟩ = some (.int .i64 n2) ∧ w'.cell? ⟨ob, 1, none⟩ = some (.slice av m.length cv)) ∧ w'.cell? ⟨ob, 2, none⟩ = some (.int .i64 g2)) (with_reducible first | assumption | exact k_.out | exact k_B.out | exact k_A.out | exact k_BA.out | exact k_AB.out | exact k_P.out | exact k_BP.out | exact k_AP.out | exact k_PB.out | exact k_PA.out | exact k_BPA.out | exact k_BAP.out | exact k_ABP.out | exact k_PBA.out | exact k_PAB.out | exact k_APB.out | exact k9.out | exact k9b.out | exact k9c.out)
              ((first
                | (go_at_call 42; (with_reducible refine at_world w7.drew ?_); (with_reducible refine (pick_rdr _ _ _ _ D_.out.rd hlo hhi hkk).mono ?_); rintro e w8 ⟨z, hz, rfl, hg8, hR8⟩; have D_P := Lib.hid (D_.out.pick hg8 hR8); have s_P : Hid (w7.heap.size + 0 ≤ w8.heap.size) := Lib.hid (by have := hg8.size; simp at this; omega); have k_P := Lib.hid (And.intro (And.intro D_P.out.out.c0 D_P.out.out.c1) D_P.out.out.c2); have D_PB := Lib.hid (D_P.out.below (below_al _ (.cells #[.int .i64 x, .int .i64 x] 48))); have FB_PB : Hid (One (w8.alloc (.cells #[.int .i64 x, .int .i64 x] 48)) (w8.heap.size) x) := Lib.hid (One.new w8 x 48); have k_PB := Lib.hid (And.intro (And.intro D_PB.out.out.c0 D_PB.out.out.c1) D_PB.out.out.c2); have D_PA := Lib.hid (D_P.out.below (below_al _ (.cells #[.int .i64 0, .slice none 0 0, .int .i64 0] 25))); have FA_PA : Hid (Emp (w8.alloc (.cells #[.int .i64 0, .slice none 0 0, .int .i64 0] 25)) (w8.heap.size)) := Lib.hid (Emp.new w8 25); have k_PA := Lib.hid (And.intro (And.intro D_PA.out.out.c0 D_PA.out.out.c1) D_PA.out.out.c2); have D_PBA := Lib.hid (D_PB.out.below (below_al _ (.cells #[.int .i64 0, .slice none 0 0, .int .i64 0] 25))); have FB_PBA := Lib.hid (FB_PB.out.below (below_al _ (.cells #[.int .i64 0, .slice none 0 0, .int .i64 0] 25))); have FA_PBA : Hid (Emp ((w8.alloc (.cells #[.int .i64 x, .int .i64 x] 48)).alloc (.cells #[.int .i64 0, .slice none 0 0, .int .i64 0] 25)) (w8.heap.size + 1)) := Lib.hid (by rw [← (show (w8.alloc (.cells #[.int .i64 x, .int .i64 x] 48)).heap.size = w8.heap.size + 1 by simp)]; exact Emp.new (w8.alloc (.cells #[.int .i64 x, .int .i64 x] 48)) 25); have k_PBA := Lib.hid (And.intro (And.intro D_PBA.out.out.c0 D_PBA.out.out.c1) D_PBA.out.out.c2); have D_PAB := Lib.hid (D_PA.out.below (below_al _ (.cells #[.int .i64 x, .int .i64 x] 48))); have FA_PAB := Lib.hid (FA_PA.out.below (below_al _ (.cells #[.int .i64 x, .int .i64 x] 48))); have FB_PAB : Hid (One ((w8.alloc (.cells #[.int .i64 0, .slice none 0 0, .int .i64 0] 25)).alloc (.cells #[.int .i64 x, .int .i64 x] 48)) (w8.heap.size + 1) x) := Lib.hid (by rw [← (show (w8.alloc (.cells #[.int .i64 0, .slice none 0 0, .int .i64 0] 25)).heap.size = w8.heap.size + 1 by simp)]; exact One.new (w8.alloc (.cells #[.int .i64 0, .slice none 0 0, .int .i64 0] 25)) x 48); have k_PAB := Lib.hid (And.intro (And.intro D_PAB.out.out.c0 D_PAB.out.out.c1) D_PAB.out.out.c2); have hw1 : IntKind.i64.wrap (5 + (z : Int)) = 5 + (z : Int) := IntWalk.i64_in _ (by omega); have hd5 : -2000 ≤ 5 + (z : Int) ∧ 5 + (z : Int) ≤ 2000 := (by omega))
                | (go_at_call 42; (with_reducible refine at_world (w7.alloc (.cells #[.int .i64 x, .int .i64 x] 48)).drew ?_); (with_reducible refine (pick_rdr _ _ _ _ D_B.out.rd hlo hhi hkk).mono ?_); rintro e w8 ⟨z, hz, rfl, hg8, hR8⟩; have D_BP := Lib.hid (D_B.out.pick hg8 hR8); have s_BP : Hid (w7.heap.size + 1 ≤ w8.heap.size) := Lib.hid (by have := hg8.size; simp at this; omega); have FB_BP := Lib.hid ((FB_B.out.below (Below.refl _ _).drew).kept hg8 (fun e => by have := Option.some.inj e; have := HS7.out; omega)); have k_BP := Lib.hid (And.intro (And.intro D_BP.out.out.c0 D_BP.out.out.c1) D_BP.out.out.c2); have D_BPA := Lib.hid (D_BP.out.below (below_al _ (.cells #[.int .i64 0, .slice none 0 0, .int .i64 0] 25))); have FB_BPA := Lib.hid (FB_BP.out.below (below_al _ (.cells #[.int .i64 0, .slice none 0 0, .int .i64 0] 25))); have FA_BPA : Hid (Emp (w8.alloc (.cells #[.int .i64 0, .slice none 0 0, .int .i64 0] 25)) (w8.heap.size)) := Lib.hid (Emp.new w8 25); have k_BPA := Lib.hid (And.intro (And.intro D_BPA.out.out.c0 D_BPA.out.out.c1) D_BPA.out.out.c2); have hw1 : IntKind.i64.wrap (5 + (z : Int)) = 5 + (z : Int) := IntWalk.i64_in _ (by omega); have hd5 : -2000 ≤ 5 + (z : Int) ∧ 5 + (z : Int) ≤ 2000 := (by omega))
                | (go_at_call 42; (with_reducible refine at_world (w7.alloc (.cells #[.int .i64 0, .slice none 0 0, .int .i64 0] 25)).drew ?_); (with_reducible refine (pick_rdr _ _ _ _ D_A.out.rd hlo hhi hkk).mono ?_); rintro e w8 ⟨z, hz, rfl, hg8, hR8⟩; have D_AP := Lib.hid (D_A.out.pick hg8 hR8); have s_AP : Hid (w7.heap.size + 1 ≤ w8.heap.size) := Lib.hid (by have := hg8.size; simp at this; omega); have FA_AP := Lib.hid ((FA_A.out.below (Below.refl _ _).drew).kept hg8 (fun e => by have := Option.some.inj e; have := HS7.out; omega)); have k_AP := Lib.hid (And.intro (And.intro D_AP.out.out.c0 D_AP.out.out.c1) D_AP.out.out.c2); have D_APB := Lib.hid (D_AP.out.below (below_al _ (.cells #[.int .i64 x, .int .i64 x] 48))); have FA_APB := Lib.hid (FA_AP.out.below (below_al _ (.cells #[.int .i64 x, .int .i64 x] 48))); have FB_APB : Hid (One (w8.alloc (.cells #[.int .i64 x, .int .i64 x] 48)) (w8.heap.size) x) := Lib.hid (One.new w8 x 48); have k_APB := Lib.hid (And.intro (And.intro D_APB.out.out.c0 D_APB.out.out.c1) D_APB.out.out.c2); have hw1 : IntKind.i64.wrap (5 + (z : Int)) = 5 + (z : Int) := IntWalk.i64_in _ (by omega); have hd5 : -2000 ≤ 5 + (z : Int) ∧ 5 + (z : Int) ≤ 2000 := (by omega))
                | (go_at_call 42; (with_reducible refine at_world ((w7.alloc (.cells #[.int .i64 x, .int .i64 x] 48)).alloc (.cells #[.int .i64 0, .slice none 0 0, .int .i64 0] 25)).drew ?_); (with_reducible refine (pick_rdr _ _ _ _ D_BA.out.rd hlo hhi hkk).mono ?_); rintro e w8 ⟨z, hz, rfl, hg8, hR8⟩; have D_BAP := Lib.hid (D_BA.out.pick hg8 hR8); have s_BAP : Hid (w7.heap.size + 2 ≤ w8.heap.size) := Lib.hid (by have := hg8.size; simp at this; omega); have FB_BAP := Lib.hid ((FB_BA.out.below (Below.refl _ _).drew).kept hg8 (fun e => by have := Option.some.inj e; have := HS7.out; omega)); have FA_BAP := Lib.hid ((FA_BA.out.below (Below.refl _ _).drew).kept hg8 (fun e => by have := Option.some.inj e; have := HS7.out; omega)); have k_BAP := Lib.hid (And.intro (And.intro D_BAP.out.out.c0 D_BAP.out.out.c1) D_BAP.out.out.c2); have hw1 : IntKind.i64.wrap (5 + (z : Int)) = 5 + (z : Int) := IntWalk.i64_in _ (by omega); have hd5 : -2000 ≤ 5 + (z : Int) ∧ 5 + (z : Int) ≤ 2000 := (by omega))
                | (go_at_call 42; (with_reducible refine at_world ((w7.alloc (.cells #[.int .i64 0, .slice none 0 0, .int .i64 0] 25)).alloc (.cells #[.int .i64 x, .int .i64 x] 48)).drew ?_); (with_reducible refine (pick_rdr _ _ _ _ D_AB.out.rd hlo hhi hkk).mono ?_); rintro e w8 ⟨z, hz, rfl, hg8, hR8⟩; have D_ABP := Lib.hid (D_AB.out.pick hg8 hR8); have s_ABP : Hid (w7.heap.size + 2 ≤ w8.heap.size) := Lib.hid (by have := hg8.size; simp at this; omega); have FA_ABP := Lib.hid ((FA_AB.out.below (Below.refl _ _).drew).kept hg8 (fun e => by have := Option.some.inj e; have := HS7.out; omega)); have FB_ABP := Lib.hid ((FB_AB.out.below (Below.refl _ _).drew).kept hg8 (fun e => by have := Option.some.inj e; have := HS7.out; omega)); have k_ABP := Lib.hid (And.intro (And.intro D_ABP.out.out.c0 D_ABP.out.out.c1) D_ABP.out.out.c2); have hw1 : IntKind.i64.wrap (5 + (z : Int)) = 5 + (z : Int) := IntWalk.i64_in _ (by omega); have hd5 : -2000 ≤ 5 + (z : Int) ∧ 5 + (z : Int) ≤ 2000 := (by omega))
                | (go_at_call 58; (with_reducible refine at_world (w8.alloc (.cells #[.int .i64 0, .slice none 0 0, .int .i64 0] 25)) ?_); have CK := Lib.hid (slack_any n2 g2 t2 (5 + (z : Int)) (.slice av m.length cv) (.slice (some ⟨w7.heap.size, 0, none⟩) 1 1) m [(x, x)] (w8.alloc (.cells #[.int .i64 0, .slice none 0 0, .int .i64 0] 25)) D_BPA.out.own.pks FB_BPA.out.rngs hml h1r htop htt hd5); (with_reducible refine CK.out.mono ?_); clear CK; rintro e w9 ⟨v9, gv9, lv9, rfl, hO9, hG9, hL9, hb9, q9, qg9, ql9, hq9, hqg9, hql9, _, _, _⟩; have LW := Lib.hid (lack_draw (n := n2) (t := t2) (d := 5 + (z : Int)) HG.out HX7.out HM.out); obtain ⟨r9, hr9⟩ : ∃ r, lack (n2, m, g2) [(x, x)] t2 (5 + (z : Int)) = r := ⟨_, rfl⟩; rw [hr9] at LW hO9 hG9 hL9 ⊢; clear hr9; obtain ⟨⟨rn, rl, rg⟩, ri, rb⟩ := r9; simp only at LW hO9 hG9 hL9 ⊢; have hn9 : v9.ownBlock ≠ none := (by rw [hq9]; simp); have D9 := Lib.hid (D_BPA.out.below hb9); have sz9 := Lib.hid hb9.size; obtain ⟨ag9, cg9, rfl⟩ := OwnI.shape hG9; obtain ⟨al9, cl9, rfl⟩ := OwnI.shape hL9; have Z9 := Lib.hid (FA_BPA.out.below hb9); have hE := Lib.hid (LX.early (n1 := rn) (g1 := rg) (xb := w8.heap.size) D9.out Z9.out.z (by have := HS7.out; have := s_BP.out; simp; omega) ⟨(by have := HS7.out; have := s_BP.out; simp; omega), (by have := HS7.out; have := s_BP.out; simp; omega)⟩ hO9 hn9 ⟨(by have := HS7.out; have := s_BP.out; omega), FA_BPA.out.lt, (by have := HS7.out; have := s_BP.out; omega), (by have := HS7.out; have := s_BP.out; omega), (fun e => by have := HSL.out _ e; have := s_BP.out; omega)⟩); obtain ⟨a9, c9, rfl⟩ := ownsRow_shape hO9; have z0 := Z9.out.z.c0; have z1 := Z9.out.z.c1; have z2 := Z9.out.z.c2; have g0 := Z9.out.f 0; have g1 := Z9.out.f 1; have g2f := Z9.out.f 2; have k9 := Lib.hid (And.intro (And.intro D9.out.out.c0 D9.out.out.c1) D9.out.out.c2); have k9b := Lib.hid (And.intro (And.intro hE.out.2.out.c0 hE.out.2.out.c1) hE.out.2.out.c2))
                | (go_at_call 58; (with_reducible refine at_world w8 ?_); have CK := Lib.hid (slack_any n2 g2 t2 (5 + (z : Int)) (.slice av m.length cv) (.slice (some ⟨w7.heap.size, 0, none⟩) 1 1) m [(x, x)] w8 D_BAP.out.own.pks FB_BAP.out.rngs hml h1r htop htt hd5); (with_reducible refine CK.out.mono ?_); clear CK; rintro e w9 ⟨v9, gv9, lv9, rfl, hO9, hG9, hL9, hb9, q9, qg9, ql9, hq9, hqg9, hql9, _, _, _⟩; have LW := Lib.hid (lack_draw (n := n2) (t := t2) (d := 5 + (z : Int)) HG.out HX7.out HM.out); obtain ⟨r9, hr9⟩ : ∃ r, lack (n2, m, g2) [(x, x)] t2 (5 + (z : Int)) = r := ⟨_, rfl⟩; rw [hr9] at LW hO9 hG9 hL9 ⊢; clear hr9; obtain ⟨⟨rn, rl, rg⟩, ri, rb⟩ := r9; simp only at LW hO9 hG9 hL9 ⊢; have hn9 : v9.ownBlock ≠ none := (by rw [hq9]; simp); have D9 := Lib.hid (D_BAP.out.below hb9); have sz9 := Lib.hid hb9.size; obtain ⟨ag9, cg9, rfl⟩ := OwnI.shape hG9; obtain ⟨al9, cl9, rfl⟩ := OwnI.shape hL9; have Z9 := Lib.hid (FA_BAP.out.below hb9); have hE := Lib.hid (LX.early (n1 := rn) (g1 := rg) (xb := w7.heap.size + 1) D9.out Z9.out.z (by have := HS7.out; have := s_BAP.out; omega) ⟨(by have := HS7.out; have := s_BAP.out; omega), (by have := HS7.out; have := s_BAP.out; omega)⟩ hO9 hn9 ⟨(by have := HS7.out; have := s_BAP.out; omega), FA_BAP.out.lt, (by have := HS7.out; have := s_BAP.out; omega), (by have := HS7.out; have := s_BAP.out; omega), (fun e => by have := HSL.out _ e; have := s_BAP.out; omega)⟩); obtain ⟨a9, c9, rfl⟩ := ownsRow_shape hO9; have z0 := Z9.out.z.c0; have z1 := Z9.out.z.c1; have z2 := Z9.out.z.c2; have g0 := Z9.out.f 0; have g1 := Z9.out.f 1; have g2f := Z9.out.f 2; have k9 := Lib.hid (And.intro (And.intro D9.out.out.c0 D9.out.out.c1) D9.out.out.c2); have k9b := Lib.hid (And.intro (And.intro hE.out.2.out.c0 hE.out.2.out.c1) hE.out.2.out.c2))
                | (go_at_call 58; (with_reducible refine at_world w8 ?_); have CK := Lib.hid (slack_any n2 g2 t2 (5 + (z : Int)) (.slice av m.length cv) (.slice (some ⟨w7.heap.size + 1, 0, none⟩) 1 1) m [(x, x)] w8 D_ABP.out.own.pks FB_ABP.out.rngs hml h1r htop htt hd5); (with_reducible refine CK.out.mono ?_); clear CK; rintro e w9 ⟨v9, gv9, lv9, rfl, hO9, hG9, hL9, hb9, q9, qg9, ql9, hq9, hqg9, hql9, _, _, _⟩; have LW := Lib.hid (lack_draw (n := n2) (t := t2) (d := 5 + (z : Int)) HG.out HX7.out HM.out); obtain ⟨r9, hr9⟩ : ∃ r, lack (n2, m, g2) [(x, x)] t2 (5 + (z : Int)) = r := ⟨_, rfl⟩; rw [hr9] at LW hO9 hG9 hL9 ⊢; clear hr9; obtain ⟨⟨rn, rl, rg⟩, ri, rb⟩ := r9; simp only at LW hO9 hG9 hL9 ⊢; have hn9 : v9.ownBlock ≠ none := (by rw [hq9]; simp); have D9 := Lib.hid (D_ABP.out.below hb9); have sz9 := Lib.hid hb9.size; obtain ⟨ag9, cg9, rfl⟩ := OwnI.shape hG9; obtain ⟨al9, cl9, rfl⟩ := OwnI.shape hL9; have Z9 := Lib.hid (FA_ABP.out.below hb9); have hE := Lib.hid (LX.early (n1 := rn) (g1 := rg) (xb := w7.heap.size) D9.out Z9.out.z (by have := HS7.out; have := s_ABP.out; omega) ⟨(by have := HS7.out; have := s_ABP.out; omega), (by have := HS7.out; have := s_ABP.out; omega)⟩ hO9 hn9 ⟨(by have := HS7.out; have := s_ABP.out; omega), FA_ABP.out.lt, (by have := HS7.out; have := s_ABP.out; omega), (by have := HS7.out; have := s_ABP.out; omega), (fun e => by have := HSL.out _ e; have := s_ABP.out; omega)⟩); obtain ⟨a9, c9, rfl⟩ := ownsRow_shape hO9; have z0 := Z9.out.z.c0; have z1 := Z9.out.z.c1; have z2 := Z9.out.z.c2; have g0 := Z9.out.f 0; have g1 := Z9.out.f 1; have g2f := Z9.out.f 2; have k9 := Lib.hid (And.intro (And.intro D9.out.out.c0 D9.out.out.c1) D9.out.out.c2); have k9b := Lib.hid (And.intro (And.intro hE.out.2.out.c0 hE.out.2.out.c1) hE.out.2.out.c2))
                | (go_at_call 58; (with_reducible refine at_world ((w8.alloc (.cells #[.int .i64 x, .int .i64 x] 48)).alloc (.cells #[.int .i64 0, .slice none 0 0, .int .i64 0] 25)) ?_); have CK := Lib.hid (slack_any n2 g2 t2 (5 + (z : Int)) (.slice av m.length cv) (.slice (some ⟨w8.heap.size, 0, none⟩) 1 1) m [(x, x)] ((w8.alloc (.cells #[.int .i64 x, .int .i64 x] 48)).alloc (.cells #[.int .i64 0, .slice none 0 0, .int .i64 0] 25)) D_PBA.out.own.pks FB_PBA.out.rngs hml h1r htop htt hd5); (with_reducible refine CK.out.mono ?_); clear CK; rintro e w9 ⟨v9, gv9, lv9, rfl, hO9, hG9, hL9, hb9, q9, qg9, ql9, hq9, hqg9, hql9, _, _, _⟩; have LW := Lib.hid (lack_draw (n := n2) (t := t2) (d := 5 + (z : Int)) HG.out HX7.out HM.out); obtain ⟨r9, hr9⟩ : ∃ r, lack (n2, m, g2) [(x, x)] t2 (5 + (z : Int)) = r := ⟨_, rfl⟩; rw [hr9] at LW hO9 hG9 hL9 ⊢; clear hr9; obtain ⟨⟨rn, rl, rg⟩, ri, rb⟩ := r9; simp only at LW hO9 hG9 hL9 ⊢; have hn9 : v9.ownBlock ≠ none := (by rw [hq9]; simp); have D9 := Lib.hid (D_PBA.out.below hb9); have sz9 := Lib.hid hb9.size; obtain ⟨ag9, cg9, rfl⟩ := OwnI.shape hG9; obtain ⟨al9, cl9, rfl⟩ := OwnI.shape hL9; have Z9 := Lib.hid (FA_PBA.out.below hb9); have hE := Lib.hid (LX.early (n1 := rn) (g1 := rg) (xb := w8.heap.size + 1) D9.out Z9.out.z (by have := HS7.out; have := s_P.out; simp; omega) ⟨(by have := HS7.out; have := s_P.out; simp; omega), (by have := HS7.out; have := s_P.out; simp; omega)⟩ hO9 hn9 ⟨(by have := HS7.out; have := s_P.out; omega), FA_PBA.out.lt, (by have := HS7.out; have := s_P.out; omega), (by have := HS7.out; have := s_P.out; omega), (fun e => by have := HSL.out _ e; have := s_P.out; omega)⟩); obtain ⟨a9, c9, rfl⟩ := ownsRow_shape hO9; have z0 := Z9.out.z.c0; have z1 := Z9.out.z.c1; have z2 := Z9.out.z.c2; have g0 := Z9.out.f 0; have g1 := Z9.out.f 1; have g2f := Z9.out.f 2; have k9 := Lib.hid (And.intro (And.intro D9.out.out.c0 D9.out.out.c1) D9.out.out.c2); have k9b := Lib.hid (And.intro (And.intro hE.out.2.out.c0 hE.out.2.out.c1) hE.out.2.out.c2))
                | (go_at_call 58; (with_reducible refine at_world ((w8.alloc (.cells #[.int .i64 0, .slice none 0 0, .int .i64 0] 25)).alloc (.cells #[.int .i64 x, .int .i64 x] 48)) ?_); have CK := Lib.hid (slack_any n2 g2 t2 (5 + (z : Int)) (.slice av m.length cv) (.slice (some ⟨w8.heap.size + 1, 0, none⟩) 1 1) m [(x, x)] ((w8.alloc (.cells #[.int .i64 0, .slice none 0 0, .int .i64 0] 25)).alloc (.cells #[.int .i64 x, .int .i64 x] 48)) D_PAB.out.own.pks FB_PAB.out.rngs hml h1r htop htt hd5); (with_reducible refine CK.out.mono ?_); clear CK; rintro e w9 ⟨v9, gv9, lv9, rfl, hO9, hG9, hL9, hb9, q9, qg9, ql9, hq9, hqg9, hql9, _, _, _⟩; have LW := Lib.hid (lack_draw (n := n2) (t := t2) (d := 5 + (z : Int)) HG.out HX7.out HM.out); obtain ⟨r9, hr9⟩ : ∃ r, lack (n2, m, g2) [(x, x)] t2 (5 + (z : Int)) = r := ⟨_, rfl⟩; rw [hr9] at LW hO9 hG9 hL9 ⊢; clear hr9; obtain ⟨⟨rn, rl, rg⟩, ri, rb⟩ := r9; simp only at LW hO9 hG9 hL9 ⊢; have hn9 : v9.ownBlock ≠ none := (by rw [hq9]; simp); have D9 := Lib.hid (D_PAB.out.below hb9); have sz9 := Lib.hid hb9.size; obtain ⟨ag9, cg9, rfl⟩ := OwnI.shape hG9; obtain ⟨al9, cl9, rfl⟩ := OwnI.shape hL9; have Z9 := Lib.hid (FA_PAB.out.below hb9); have hE := Lib.hid (LX.early (n1 := rn) (g1 := rg) (xb := w8.heap.size) D9.out Z9.out.z (by have := HS7.out; have := s_P.out; simp; omega) ⟨(by have := HS7.out; have := s_P.out; simp; omega), (by have := HS7.out; have := s_P.out; simp; omega)⟩ hO9 hn9 ⟨(by have := HS7.out; have := s_P.out; omega), FA_PAB.out.lt, (by have := HS7.out; have := s_P.out; omega), (by have := HS7.out; have := s_P.out; omega), (fun e => by have := HSL.out _ e; have := s_P.out; omega)⟩); obtain ⟨a9, c9, rfl⟩ := ownsRow_shape hO9; have z0 := Z9.out.z.c0; have z1 := Z9.out.z.c1; have z2 := Z9.out.z.c2; have g0 := Z9.out.f 0; have g1 := Z9.out.f 1; have g2f := Z9.out.f 2; have k9 := Lib.hid (And.intro (And.intro D9.out.out.c0 D9.out.out.c1) D9.out.out.c2); have k9b := Lib.hid (And.intro (And.intro hE.out.2.out.c0 hE.out.2.out.c1) hE.out.2.out.c2))
                | (go_at_call 58; (with_reducible refine at_world (w8.alloc (.cells #[.int .i64 x, .int .i64 x] 48)) ?_); have CK := Lib.hid (slack_any n2 g2 t2 (5 + (z : Int)) (.slice av m.length cv) (.slice (some ⟨w8.heap.size, 0, none⟩) 1 1) m [(x, x)] (w8.alloc (.cells #[.int .i64 x, .int .i64 x] 48)) D_APB.out.own.pks FB_APB.out.rngs hml h1r htop htt hd5); (with_reducible refine CK.out.mono ?_); clear CK; rintro e w9 ⟨v9, gv9, lv9, rfl, hO9, hG9, hL9, hb9, q9, qg9, ql9, hq9, hqg9, hql9, _, _, _⟩; have LW := Lib.hid (lack_draw (n := n2) (t := t2) (d := 5 + (z : Int)) HG.out HX7.out HM.out); obtain ⟨r9, hr9⟩ : ∃ r, lack (n2, m, g2) [(x, x)] t2 (5 + (z : Int)) = r := ⟨_, rfl⟩; rw [hr9] at LW hO9 hG9 hL9 ⊢; clear hr9; obtain ⟨⟨rn, rl, rg⟩, ri, rb⟩ := r9; simp only at LW hO9 hG9 hL9 ⊢; have hn9 : v9.ownBlock ≠ none := (by rw [hq9]; simp); have D9 := Lib.hid (D_APB.out.below hb9); have sz9 := Lib.hid hb9.size; obtain ⟨ag9, cg9, rfl⟩ := OwnI.shape hG9; obtain ⟨al9, cl9, rfl⟩ := OwnI.shape hL9; have Z9 := Lib.hid (FA_APB.out.below hb9); have hE := Lib.hid (LX.early (n1 := rn) (g1 := rg) (xb := w7.heap.size) D9.out Z9.out.z (by have := HS7.out; have := s_AP.out; simp; omega) ⟨(by have := HS7.out; have := s_AP.out; simp; omega), (by have := HS7.out; have := s_AP.out; simp; omega)⟩ hO9 hn9 ⟨(by have := HS7.out; have := s_AP.out; omega), FA_APB.out.lt, (by have := HS7.out; have := s_AP.out; omega), (by have := HS7.out; have := s_AP.out; omega), (fun e => by have := HSL.out _ e; have := s_AP.out; omega)⟩); obtain ⟨a9, c9, rfl⟩ := ownsRow_shape hO9; have z0 := Z9.out.z.c0; have z1 := Z9.out.z.c1; have z2 := Z9.out.z.c2; have g0 := Z9.out.f 0; have g1 := Z9.out.f 1; have g2f := Z9.out.f 2; have k9 := Lib.hid (And.intro (And.intro D9.out.out.c0 D9.out.out.c1) D9.out.out.c2); have k9b := Lib.hid (And.intro (And.intro hE.out.2.out.c0 hE.out.2.out.c1) hE.out.2.out.c2))
                | (go_at_call 58; (with_reducible refine at_world w8 ?_); have CK := Lib.hid (slack_any n2 g2 t2 (5 + (z : Int)) (.slice av m.length cv) (.slice (some ⟨w7.heap.size, 0, none⟩) 1 1) m [(x, x)] w8 D_BP.out.own.pks FB_BP.out.rngs hml h1r htop htt hd5); (with_reducible refine CK.out.mono ?_); clear CK; rintro e w9 ⟨v9, gv9, lv9, rfl, hO9, hG9, hL9, hb9, q9, qg9, ql9, hq9, hqg9, hql9, _, _, _⟩; have LW := Lib.hid (lack_draw (n := n2) (t := t2) (d := 5 + (z : Int)) HG.out HX7.out HM.out); obtain ⟨r9, hr9⟩ : ∃ r, lack (n2, m, g2) [(x, x)] t2 (5 + (z : Int)) = r := ⟨_, rfl⟩; rw [hr9] at LW hO9 hG9 hL9 ⊢; clear hr9; obtain ⟨⟨rn, rl, rg⟩, ri, rb⟩ := r9; simp only at LW hO9 hG9 hL9 ⊢; have hn9 : v9.ownBlock ≠ none := (by rw [hq9]; simp); have D9 := Lib.hid (D_BP.out.below hb9); have sz9 := Lib.hid hb9.size; obtain ⟨ag9, cg9, rfl⟩ := OwnI.shape hG9; obtain ⟨al9, cl9, rfl⟩ := OwnI.shape hL9; have D9a := Lib.hid (D9.out.below (below_al _ (.cells #[.int .i64 0, .slice none 0 0, .int .i64 0] 25))); have k9c := Lib.hid (And.intro (And.intro D9a.out.out.c0 D9a.out.out.c1) D9a.out.out.c2); have hE := Lib.hid (LX.late (n1 := rn) (g1 := rg) D9.out (by have := HS7.out; have := s_BP.out; omega) ⟨(by have := HS7.out; have := s_BP.out; omega), (by have := HS7.out; have := s_BP.out; omega)⟩ hO9 hn9 25); obtain ⟨a9, c9, rfl⟩ := ownsRow_shape hO9; have k9 := Lib.hid (And.intro (And.intro D9.out.out.c0 D9.out.out.c1) D9.out.out.c2); have k9b := Lib.hid (And.intro (And.intro hE.out.2.out.c0 hE.out.2.out.c1) hE.out.2.out.c2))
                | (go_at_call 58; (with_reducible refine at_world (w8.alloc (.cells #[.int .i64 x, .int .i64 x] 48)) ?_); have CK := Lib.hid (slack_any n2 g2 t2 (5 + (z : Int)) (.slice av m.length cv) (.slice (some ⟨w8.heap.size, 0, none⟩) 1 1) m [(x, x)] (w8.alloc (.cells #[.int .i64 x, .int .i64 x] 48)) D_PB.out.own.pks FB_PB.out.rngs hml h1r htop htt hd5); (with_reducible refine CK.out.mono ?_); clear CK; rintro e w9 ⟨v9, gv9, lv9, rfl, hO9, hG9, hL9, hb9, q9, qg9, ql9, hq9, hqg9, hql9, _, _, _⟩; have LW := Lib.hid (lack_draw (n := n2) (t := t2) (d := 5 + (z : Int)) HG.out HX7.out HM.out); obtain ⟨r9, hr9⟩ : ∃ r, lack (n2, m, g2) [(x, x)] t2 (5 + (z : Int)) = r := ⟨_, rfl⟩; rw [hr9] at LW hO9 hG9 hL9 ⊢; clear hr9; obtain ⟨⟨rn, rl, rg⟩, ri, rb⟩ := r9; simp only at LW hO9 hG9 hL9 ⊢; have hn9 : v9.ownBlock ≠ none := (by rw [hq9]; simp); have D9 := Lib.hid (D_PB.out.below hb9); have sz9 := Lib.hid hb9.size; obtain ⟨ag9, cg9, rfl⟩ := OwnI.shape hG9; obtain ⟨al9, cl9, rfl⟩ := OwnI.shape hL9; have D9a := Lib.hid (D9.out.below (below_al _ (.cells #[.int .i64 0, .slice none 0 0, .int .i64 0] 25))); have k9c := Lib.hid (And.intro (And.intro D9a.out.out.c0 D9a.out.out.c1) D9a.out.out.c2); have hE := Lib.hid (LX.late (n1 := rn) (g1 := rg) D9.out (by have := HS7.out; have := s_P.out; simp; omega) ⟨(by have := HS7.out; have := s_P.out; simp; omega), (by have := HS7.out; have := s_P.out; simp; omega)⟩ hO9 hn9 25); obtain ⟨a9, c9, rfl⟩ := ownsRow_shape hO9; have k9 := Lib.hid (And.intro (And.intro D9.out.out.c0 D9.out.out.c1) D9.out.out.c2); have k9b := Lib.hid (And.intro (And.intro hE.out.2.out.c0 hE.out.2.out.c1) hE.out.2.out.c2))))
            all_goals
              have hB := HBN.out
              have hlw := LW.out
              go_wp2_with fail
              go_meet
              refine ⟨_, _, _, _, _, rfl, Lib.hid ?_, Lib.hid hE.out.1, Lib.hid hE.out.2⟩
              obtain ⟨b1, b2, b3, b4⟩ := hlw
              rw [b4] at b3
              exact ⟨by omega, by omega, b2, by omega, by omega⟩
          case rest =>
            obtain ⟨xb, n3, g3, v, l3, rfl, HB3, HX, HD8⟩ := hcut
            obtain ⟨av, cv, rfl⟩ := ownsRow_shape HX.out.own
            obtain ⟨x0, x1, x2⟩ := HX.out.x
            obtain ⟨r0, r1, r2⟩ := HD8.out.out
            have e0 := HD8.out.of 0
            have e1 := HD8.out.of 1
            have e2 := HD8.out.of 2
            have HD9 := Lib.hid (HD8.out.store (n' := n3) (g' := g3) HX.out.own HX.out.ne)
            clear HD7 HX HD8 q0 q1 q2
            go_upto_region 5 with fail
            generalize ((wc.setCell ⟨ob, 0, none⟩ (.int .i64 n3)).setCell ⟨ob, 1, none⟩ (.slice av l3.length cv)).setCell ⟨ob, 2, none⟩ (.int .i64 g3) = W4 at HD9 ⊢
            clear x0 x1 x2 r0 r1 r2 e0 e1 e2
            have HKE : Hid (0 ≤ t2 ∧ t2 ≤ 20 + 4 * ((j + 1 : Nat) : Int) ∧ 0 ≤ n3 ∧ n3 ≤ ((j + 1 : Nat) : Int) ∧ -1 ≤ g3 ∧ g3 ≤ 100 ∧ l3.length ≤ 12) := Lib.hid (by have := HB3.out; omega)
            have hy9 : j + 1 ≤ 18 := by omega
            have HD10 := Lib.hid (HD9.out.le (k' := k + 1 + 6 * (j + 1)) (by omega))
            clear HB3 HD9
            go_wp2_with fail
            go_roundw
            case rel => exact ⟨j + 1, t2, n3, g3, _, l3, hy9, by go_num, rfl, HKE, HD10⟩
            case measure => simp [intOf]; omega
        · have HKE : Hid (0 ≤ t2 ∧ t2 ≤ 20 + 4 * ((j + 1 : Nat) : Int) ∧ 0 ≤ n2 ∧ n2 ≤ ((j + 1 : Nat) : Int) ∧ -1 ≤ g2 ∧ g2 ≤ 100 ∧ m.length ≤ 12) := Lib.hid (by omega)
          have hy9 : j + 1 ≤ 18 := by omega
          have HD10 := Lib.hid (HD6.out.le (k' := k + 1 + 6 * (j + 1)) (by omega))
          by_cases hz0 : z5 = 0
          · have hb0 : ((z5 : Int) == 0) = true := by rw [hz0]; rfl
            have hn0 : ¬ 0 < n2 := fun h => hz ⟨hz0, h⟩
            have hdn := decide_eq_false hn0
            clear hz hz0
            go_wp2_with fail
            go_roundw
            case rel => exact ⟨j + 1, t2, n2, g2, _, m, hy9, by go_num, rfl, HKE, HD10⟩
            case measure => simp [intOf]; omega
          · have hb0 : ((z5 : Int) == 0) = false := by rw [beq_eq_false_iff_ne]; omega
            clear hz hz0
            go_wp2_with fail
            go_roundw
            case rel => exact ⟨j + 1, t2, n2, g2, _, m, hy9, by go_num, rfl, HKE, HD10⟩
            case measure => simp [intOf]; omega
    · have hlt' : ¬ (j : Int) < (y : Int) := by omega
      have hdl := decide_eq_false hlt'
      go_wp2_with fail
      refine (pick_rdr b _ _ _ HD2.out.rd (by omega) (by omega) (by omega)).mono ?_
      rintro e w3 ⟨c, hc, rfl, hg3, R3⟩
      have HD3 := Lib.hid (HD2.out.pick hg3 R3)
      clear hg3 R3 HD2
      by_cases hc0 : c = 0
      · have hb0 : ((c : Int) == 0) = true := by rw [hc0]; rfl
        have hb1 : ((c : Int) == 1) = false := by rw [hc0]; rfl
        have hb2 : ((c : Int) == 2) = false := by rw [hc0]; rfl
        have hb3 : ((c : Int) == 3) = false := by rw [hc0]; rfl
        clear hc0
        have HD4 := Lib.hid (HD3.out.below (below_al _ (.cells #[.int .i64 (-1), .int .i64 0, .int .i64 1000, .int .i64 1001] 3)))
        have HB3 : Hid (b < w3.heap.size) := Lib.hid HD3.out.rd.1
        go_wp2_with fail
        refine (pick_rdr b _ _ _ HD4.out.rd (by omega) (by omega) (by omega)).mono ?_
        rintro e w5 ⟨p, hp, rfl, hg5, R5⟩
        have HD5 := Lib.hid (HD4.out.pick hg5 R5)
        obtain ⟨v, hv, hv1, hv2⟩ : ∃ v : Int, w5.cell? ⟨w3.heap.size, p, none⟩ = some (.int .i64 v) ∧ -1 ≤ v ∧ v ≤ 1001 := by
          have hnb : some w3.heap.size ≠ some b := fun e => by have := Option.some.inj e; have := HB3.out; omega
          have hcell : ∀ (i : Nat) (u : Value), (w3.alloc (.cells #[.int .i64 (-1), .int .i64 0, .int .i64 1000, .int .i64 1001] 3)).cell? ⟨w3.heap.size, i, none⟩ = some u → w5.cell? ⟨w3.heap.size, i, none⟩ = some u := fun i u h => hg5.cell h hnb
          rcases (by omega : p = 0 ∨ p = 1 ∨ p = 2 ∨ p = 3) with rfl | rfl | rfl | rfl
          · exact ⟨-1, hcell 0 _ (by rw [World.cell?_alloc_mark]; rfl), by omega, by omega⟩
          · exact ⟨0, hcell 1 _ (by rw [World.cell?_alloc_mark]; rfl), by omega, by omega⟩
          · exact ⟨1000, hcell 2 _ (by rw [World.cell?_alloc_mark]; rfl), by omega, by omega⟩
          · exact ⟨1001, hcell 3 _ (by rw [World.cell?_alloc_mark]; rfl), by omega, by omega⟩
        clear hg5 R5 HD4
        have hp4 : p < 4 := by omega
        have HDE := Lib.hid (HD5.out.store0 (n' := v))
        obtain ⟨q0, q1, q2⟩ := HD5.out.out
        have g0 := HD5.out.of 0
        go_upto_region 24 with fail
        generalize w5.setCell ⟨ob, 0, none⟩ (.int .i64 v) = WE at HDE ⊢
        clear q0 q1 q2 g0 HD5 hv
        obtain ⟨ax, cx, rfl⟩ := ownsRow_shape HDE.out.own
        obtain ⟨q0, q1, q2⟩ := HDE.out.out
        obtain ⟨z0, z1, z2⟩ := HDE.out.zer
        have f0 := HDE.out.zf 0
        have f1 := HDE.out.zf 1
        have f2 := HDE.out.zf 2
        have KE := Lib.hid HDE.out.fin
        have hne := Lib.hid HDE.out.ne.1
        go_wp2_with fail
        generalize ((WE.setCell ⟨w.heap.size, 0, none⟩ (.int .i64 v)).setCell ⟨w.heap.size, 1, none⟩ (.slice ax l.length cx)).setCell ⟨w.heap.size, 2, none⟩ (.int .i64 g) = WF at KE ⊢
        obtain ⟨k0, k1, k2⟩ := KE.out.1
        refine bodyPost_ret (v := .agg #[.int .i64 v, .slice ax l.length cx, .int .i64 g]) ?_ rfl ?_
        · rw [results_c1 rfl]; go_simp
        · exact ⟨v, g, _, l, rfl, ⟨by omega, by omega⟩, ⟨by omega, by omega⟩, by omega, KE.out.2.2.2, hne.out, KE.out.2.1, KE.out.2.2.1.le (by omega)⟩
      · have hb0 : ((c : Int) == 0) = false := by rw [beq_eq_false_iff_ne]; omega
        by_cases hc1 : c = 1
        · have hb1 : ((c : Int) == 1) = true := by rw [hc1]; rfl
          have hb2 : ((c : Int) == 2) = false := by rw [hc1]; rfl
          have hb3 : ((c : Int) == 3) = false := by rw [hc1]; rfl
          clear hc0 hc1
          have Dd := Lib.hid HD3.out.drew
          have hkk : k + 1 + 6 * j + 1 + 1 ≤ 1000000 := by omega
          have hlo : (1 : Int) ≤ 5 := by omega
          have hhi : (5 : Int) ≤ 1000000 := by omega
          have HG := Lib.hid (show -1 ≤ g ∧ g ≤ 100 by omega)
          go_upto_region 17 with fail
          have q2 := HD3.out.out.c2
          go_region_law (go_simp; (with_reducible refine (pick_rdr _ _ _ _ Dd.out.rd hlo hhi hkk).mono ?_); rintro e w8 ⟨z, hz, rfl, hg8, hR8⟩; have D8 := Lib.hid (Dd.out.pick hg8 hR8); have k8 := D8.out.out.c2; have kf := D8.out.of 2; have hw1 : IntKind.i64.wrap (g + (z : Int)) = g + (z : Int) := IntWalk.i64_in _ (by have := HG.out; omega); have hw2 : IntKind.i64.wrap (g + (z : Int) - 2) = g + (z : Int) - 2 := IntWalk.i64_in _ (by have := HG.out; omega))
          all_goals
            have HDE := Lib.hid (D8.out.store2 (g' := g + (z : Int) - 2))
            obtain ⟨g9, hg9⟩ : ∃ g9, g + (z : Int) - 2 = g9 := ⟨_, rfl⟩
            have hg91 : -1000 ≤ g9 := by omega
            have hg92 : g9 ≤ 1000 := by omega
            clear q2 k8 kf hw1 hw2 Dd
            go_upto_region 24 with fail
            rw [hg9] at HDE
            rw [hg9]
            clear hg9
            generalize w8.setCell ⟨ob, 2, none⟩ (.int .i64 g9) = WE at HDE ⊢
            clear D8
            obtain ⟨ax, cx, rfl⟩ := ownsRow_shape HDE.out.own
            obtain ⟨q0, q1, q2⟩ := HDE.out.out
            obtain ⟨z0, z1, z2⟩ := HDE.out.zer
            have f0 := HDE.out.zf 0
            have f1 := HDE.out.zf 1
            have f2 := HDE.out.zf 2
            have KE := Lib.hid HDE.out.fin
            have hne := Lib.hid HDE.out.ne.1
            go_wp2_with fail
            generalize ((WE.setCell ⟨w.heap.size, 0, none⟩ (.int .i64 n)).setCell ⟨w.heap.size, 1, none⟩ (.slice ax l.length cx)).setCell ⟨w.heap.size, 2, none⟩ (.int .i64 (g9)) = WF at KE ⊢
            obtain ⟨k0, k1, k2⟩ := KE.out.1
            refine bodyPost_ret (v := .agg #[.int .i64 n, .slice ax l.length cx, .int .i64 (g9)]) ?_ rfl ?_
            · rw [results_c1 rfl]; go_simp
            · exact ⟨n, g9, _, l, rfl, ⟨by omega, by omega⟩, ⟨by omega, by omega⟩, by omega, KE.out.2.2.2, hne.out, KE.out.2.1, KE.out.2.2.1.le (by omega)⟩
        · have hb1 : ((c : Int) == 1) = false := by rw [beq_eq_false_iff_ne]; omega
          by_cases hc23 : (c = 2 ∨ c = 3) ∧ 0 < l.length
          · obtain ⟨hc23, hl0⟩ := hc23
            have hl0' : (0 : Int) < (l.length : Int) := by omega
            have hdl0 := decide_eq_true hl0'
            have hdl1 := decide_eq_true hl0
            obtain ⟨q, cq, hsl⟩ : ∃ q cq, s = .slice (some ⟨q, 0, none⟩) l.length cq := by
              have h := HD3.out.own
              obtain ⟨_, ⟨_, h0⟩ | ⟨g, c, cur, e, _⟩⟩ := h
              · omega
              · exact ⟨g, c, e⟩
            subst hsl
            have HL := Lib.hid (show l.length ≤ 12 by omega)
            have hlo : (1 : Int) ≤ (l.length : Int) := by omega
            have hhi : (l.length : Int) ≤ 1000000 := by omega
            have hkk : k + 1 + 6 * j + 1 + 1 ≤ 1000000 := by omega
            have hkk2 : k + 1 + 6 * j + 1 + 1 + 1 ≤ 1000000 := by omega
            obtain ⟨q0, q1, q2⟩ := HD3.out.out
            rcases hc23 with hc2 | hc2
            · have hb2 : ((c : Int) == 2) = true := by rw [hc2]; rfl
              have hb3 : ((c : Int) == 3) = false := by rw [hc2]; rfl
              have hlo2 : (1 : Int) ≤ 60 := by omega
              have hhi2 : (60 : Int) ≤ 1000000 := by omega
              clear hc0 hc1 hc2
              go_upto_region 20 with fail
              have Dd := Lib.hid HD3.out.drew
              have kd := Dd.out.out.c1
              go_region_held3 (fun w' => w'.cell? ⟨ob, 1, none⟩ = some (.slice (some ⟨q, 0, none⟩) l.length cq)) (with_reducible first | assumption | exact kd | exact k8 | exact k9 | exact k10)
                ((first
                  | (go_at_call 42; (with_reducible refine at_world w3.drew ?_); (with_reducible refine (pick_rdr _ _ _ _ Dd.out.rd hlo hhi hkk).mono ?_); rintro e w8 ⟨i, hi, rfl, hg8, hR8⟩; have D8 := Lib.hid (Dd.out.pick hg8 hR8); have k8 := D8.out.out.c1; have hil : i < l.length := (by omega))
                  | (go_at_call 42; (with_reducible refine at_world w8 ?_); (with_reducible refine (pick_rdr _ _ _ _ D8.out.rd hlo2 hhi2 hkk2).mono ?_); rintro e w9 ⟨z, hz, rfl, hg9, hR9⟩; have D9 := Lib.hid (D8.out.pick hg9 hR9); have k9 := D9.out.out.c1; obtain ⟨⟨y9, c9⟩, f9⟩ := D9.out.rowAt hil 1 (by omega); obtain ⟨l9, hl9, D10⟩ := D9.out.setPk hil 1 (by omega) (z : Int); have D10 := Lib.hid D10; have k10 := D10.out.out.c1)))
              all_goals
                have hl12 : l9.length ≤ 12 := by have := HL.out; omega
                have HDE := D10
                rw [← hl9] at HDE
                clear hl9 q0 q1 q2 kd k8 k9 k10 c9 f9 D8 D9 D10 Dd HD3 hi hz hil
                go_upto_region 24 with fail
                generalize w9.setCell ⟨q, i * 3 + 1, none⟩ (.int .i64 (z : Int)) = WE at HDE ⊢
                obtain ⟨q0, q1, q2⟩ := HDE.out.out
                obtain ⟨z0, z1, z2⟩ := HDE.out.zer
                have f0 := HDE.out.zf 0
                have f1 := HDE.out.zf 1
                have f2 := HDE.out.zf 2
                have KE := Lib.hid HDE.out.fin
                have hne := Lib.hid HDE.out.ne.1
                go_wp2_with fail
                generalize ((WE.setCell ⟨w.heap.size, 0, none⟩ (.int .i64 n)).setCell ⟨w.heap.size, 1, none⟩ (.slice (some ⟨q, 0, none⟩) l9.length cq)).setCell ⟨w.heap.size, 2, none⟩ (.int .i64 (g)) = WF at KE ⊢
                obtain ⟨k0, k1, k2⟩ := KE.out.1
                refine bodyPost_ret (v := .agg #[.int .i64 n, .slice (some ⟨q, 0, none⟩) l9.length cq, .int .i64 (g)]) ?_ rfl ?_
                · rw [results_c1 rfl]; go_simp
                · exact ⟨n, g, _, l9, rfl, ⟨by omega, by omega⟩, ⟨by omega, by omega⟩, by omega, KE.out.2.2.2, hne.out, KE.out.2.1, KE.out.2.2.1.le (by omega)⟩
            · have hb2 : ((c : Int) == 2) = false := by rw [hc2]; rfl
              have hb3 : ((c : Int) == 3) = true := by rw [hc2]; rfl
              have hlo2 : (1 : Int) ≤ 102 := by omega
              have hhi2 : (102 : Int) ≤ 1000000 := by omega
              clear hc0 hc1 hc2
              go_upto_region 23 with fail
              have Dd := Lib.hid HD3.out.drew
              have kd := Dd.out.out.c1
              go_region_held3 (fun w' => w'.cell? ⟨ob, 1, none⟩ = some (.slice (some ⟨q, 0, none⟩) l.length cq)) (with_reducible first | assumption | exact kd | exact k8 | exact k9 | exact k10)
                ((first
                  | (go_at_call 42; (with_reducible refine at_world w3.drew ?_); (with_reducible refine (pick_rdr _ _ _ _ Dd.out.rd hlo hhi hkk).mono ?_); rintro e w8 ⟨i, hi, rfl, hg8, hR8⟩; have D8 := Lib.hid (Dd.out.pick hg8 hR8); have k8 := D8.out.out.c1; have hil : i < l.length := (by omega))
                  | (go_at_call 42; (with_reducible refine at_world w8 ?_); (with_reducible refine (pick_rdr _ _ _ _ D8.out.rd hlo2 hhi2 hkk2).mono ?_); rintro e w9 ⟨z, hz, rfl, hg9, hR9⟩; have D9 := Lib.hid (D8.out.pick hg9 hR9); have k9 := D9.out.out.c1; obtain ⟨⟨y9, c9⟩, f9⟩ := D9.out.rowAt hil 2 (by omega); have hw9 : IntKind.i64.wrap ((z : Int) - 1) = (z : Int) - 1 := IntWalk.i64_in _ (by omega); obtain ⟨l9, hl9, D10⟩ := D9.out.setPk hil 2 (by omega) ((z : Int) - 1); have D10 := Lib.hid D10; have k10 := D10.out.out.c1)))
              all_goals
                have hl12 : l9.length ≤ 12 := by have := HL.out; omega
                have HDE := D10
                rw [← hl9] at HDE
                clear hl9 q0 q1 q2 kd k8 k9 k10 c9 f9 D8 D9 D10 Dd HD3 hi hz hil
                go_upto_region 24 with fail
                generalize w9.setCell ⟨q, i * 3 + 2, none⟩ (.int .i64 ((z : Int) - 1)) = WE at HDE ⊢
                obtain ⟨q0, q1, q2⟩ := HDE.out.out
                obtain ⟨z0, z1, z2⟩ := HDE.out.zer
                have f0 := HDE.out.zf 0
                have f1 := HDE.out.zf 1
                have f2 := HDE.out.zf 2
                have KE := Lib.hid HDE.out.fin
                have hne := Lib.hid HDE.out.ne.1
                go_wp2_with fail
                generalize ((WE.setCell ⟨w.heap.size, 0, none⟩ (.int .i64 n)).setCell ⟨w.heap.size, 1, none⟩ (.slice (some ⟨q, 0, none⟩) l9.length cq)).setCell ⟨w.heap.size, 2, none⟩ (.int .i64 (g)) = WF at KE ⊢
                obtain ⟨k0, k1, k2⟩ := KE.out.1
                refine bodyPost_ret (v := .agg #[.int .i64 n, .slice (some ⟨q, 0, none⟩) l9.length cq, .int .i64 (g)]) ?_ rfl ?_
                · rw [results_c1 rfl]; go_simp
                · exact ⟨n, g, _, l9, rfl, ⟨by omega, by omega⟩, ⟨by omega, by omega⟩, by omega, KE.out.2.2.2, hne.out, KE.out.2.1, KE.out.2.2.1.le (by omega)⟩
          · have HDE := HD3
            by_cases hc2 : c = 2
            · have hl0 : ¬ 0 < l.length := fun h => hc23 ⟨.inl hc2, h⟩
              have hl0' : ¬ (0 : Int) < (l.length : Int) := by omega
              have hdl0 := decide_eq_false hl0'
              have hdl1 := decide_eq_false hl0
              have hb2 : ((c : Int) == 2) = true := by rw [hc2]; rfl
              have hb3 : ((c : Int) == 3) = false := by rw [hc2]; rfl
              clear hc0 hc1 hc2 hc23
              generalize w3 = WE at HDE HD3 ⊢
              obtain ⟨ax, cx, rfl⟩ := ownsRow_shape HDE.out.own
              obtain ⟨q0, q1, q2⟩ := HDE.out.out
              obtain ⟨z0, z1, z2⟩ := HDE.out.zer
              have f0 := HDE.out.zf 0
              have f1 := HDE.out.zf 1
              have f2 := HDE.out.zf 2
              have KE := Lib.hid HDE.out.fin
              have hne := Lib.hid HDE.out.ne.1
              go_wp2_with fail
              generalize ((WE.setCell ⟨w.heap.size, 0, none⟩ (.int .i64 n)).setCell ⟨w.heap.size, 1, none⟩ (.slice ax l.length cx)).setCell ⟨w.heap.size, 2, none⟩ (.int .i64 (g)) = WF at KE ⊢
              obtain ⟨k0, k1, k2⟩ := KE.out.1
              refine bodyPost_ret (v := .agg #[.int .i64 n, .slice ax l.length cx, .int .i64 (g)]) ?_ rfl ?_
              · rw [results_c1 rfl]; go_simp
              · exact ⟨n, g, _, l, rfl, ⟨by omega, by omega⟩, ⟨by omega, by omega⟩, by omega, KE.out.2.2.2, hne.out, KE.out.2.1, KE.out.2.2.1.le (by omega)⟩
            · have hb2 : ((c : Int) == 2) = false := by rw [beq_eq_false_iff_ne]; omega
              by_cases hc3 : c = 3
              · have hl0 : ¬ 0 < l.length := fun h => hc23 ⟨.inr hc3, h⟩
                have hl0' : ¬ (0 : Int) < (l.length : Int) := by omega
                have hdl0 := decide_eq_false hl0'
                have hdl1 := decide_eq_false hl0
                have hb3 : ((c : Int) == 3) = true := by rw [hc3]; rfl
                clear hc0 hc1 hc2 hc3 hc23
                generalize w3 = WE at HDE HD3 ⊢
                obtain ⟨ax, cx, rfl⟩ := ownsRow_shape HDE.out.own
                obtain ⟨q0, q1, q2⟩ := HDE.out.out
                obtain ⟨z0, z1, z2⟩ := HDE.out.zer
                have f0 := HDE.out.zf 0
                have f1 := HDE.out.zf 1
                have f2 := HDE.out.zf 2
                have KE := Lib.hid HDE.out.fin
                have hne := Lib.hid HDE.out.ne.1
                go_wp2_with fail
                generalize ((WE.setCell ⟨w.heap.size, 0, none⟩ (.int .i64 n)).setCell ⟨w.heap.size, 1, none⟩ (.slice ax l.length cx)).setCell ⟨w.heap.size, 2, none⟩ (.int .i64 (g)) = WF at KE ⊢
                obtain ⟨k0, k1, k2⟩ := KE.out.1
                refine bodyPost_ret (v := .agg #[.int .i64 n, .slice ax l.length cx, .int .i64 (g)]) ?_ rfl ?_
                · rw [results_c1 rfl]; go_simp
                · exact ⟨n, g, _, l, rfl, ⟨by omega, by omega⟩, ⟨by omega, by omega⟩, by omega, KE.out.2.2.2, hne.out, KE.out.2.1, KE.out.2.2.1.le (by omega)⟩
              · have hb3 : ((c : Int) == 3) = false := by rw [beq_eq_false_iff_ne]; omega
                clear hc0 hc1 hc2 hc3 hc23
                generalize w3 = WE at HDE HD3 ⊢
                obtain ⟨ax, cx, rfl⟩ := ownsRow_shape HDE.out.own
                obtain ⟨q0, q1, q2⟩ := HDE.out.out
                obtain ⟨z0, z1, z2⟩ := HDE.out.zer
                have f0 := HDE.out.zf 0
                have f1 := HDE.out.zf 1
                have f2 := HDE.out.zf 2
                have KE := Lib.hid HDE.out.fin
                have hne := Lib.hid HDE.out.ne.1
                go_wp2_with fail
                generalize ((WE.setCell ⟨w.heap.size, 0, none⟩ (.int .i64 n)).setCell ⟨w.heap.size, 1, none⟩ (.slice ax l.length cx)).setCell ⟨w.heap.size, 2, none⟩ (.int .i64 (g)) = WF at KE ⊢
                obtain ⟨k0, k1, k2⟩ := KE.out.1
                refine bodyPost_ret (v := .agg #[.int .i64 n, .slice ax l.length cx, .int .i64 (g)]) ?_ rfl ?_
                · rw [results_c1 rfl]; go_simp
                · exact ⟨n, g, _, l, rfl, ⟨by omega, by omega⟩, ⟨by omega, by omega⟩, by omega, KE.out.2.2.2, hne.out, KE.out.2.1, KE.out.2.2.1.le (by omega)⟩

end Go.Proofs.Ytpbkhlkhnjmacaa
