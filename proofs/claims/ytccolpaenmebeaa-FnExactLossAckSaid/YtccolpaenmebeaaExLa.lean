/- The exact law of LossAck: the walk. -/
import Derived.Test.YtccolpaenmebeaaExLr
import Derived.Test.YtccolpaenmebeaaSLe
import Derived.Test.YtccolpaenmebeaaIVa
namespace Go.Proofs.Ytccolpaenmebeaa
open Go.RowKit
set_option linter.unusedVariables false
set_option linter.unusedSimpArgs false

theorem lackv_len {s : Ls} {a : List (Int × Int)} {t d : Int} {R : (Ls × List Int × List Int) × Bool} (h : lackv s a t d = R) : R.1.1.2.1.length ≤ 12 ∧ R.1.2.1.length ≤ 12 ∧ R.1.2.2.length ≤ 12 := by
  subst h
  unfold lackv
  split
  · rename_i k
    have k3 : s.2.1.length ≤ 12 := k.1.2.2.1
    refine ⟨?_, ?_, ?_⟩
    · exact Nat.le_trans (List.length_filter_le _ _) k3
    · simp only [lack, gotL, List.length_map]; exact Nat.le_trans (List.length_filter_le _ _) k3
    · simp only [lack, lostL, List.length_map]; exact Nat.le_trans (List.length_filter_le _ _) k3
  · simp
theorem ZS.cells {w W : World} {n g n' g' : Int} {v v2 gv2 lv2 v3 v4 gv4 lv4 : Value} {p2 p3 p4 : Nat} {m : List Pk} {gs lo : List Int} {M3 M4 : List Pk} {G4 L4 : List Int} (h : ZS w W n g n' g' v v2 gv2 lv2 v3 v4 gv4 lv4 p2 p3 p4 m gs lo M3 M4 G4 L4) :
    W.cell? ⟨w.heap.size, 0, none⟩ = some (.int .i64 n) ∧ W.cell? ⟨w.heap.size, 1, none⟩ = some v ∧ W.cell? ⟨w.heap.size, 2, none⟩ = some (.int .i64 g) ∧ W.cell? ⟨p2, 0, none⟩ = some (.int .i64 n') ∧ W.cell? ⟨p2, 1, none⟩ = some v2 ∧ W.cell? ⟨p2, 2, none⟩ = some (.int .i64 g') ∧ W.cell? ⟨p3, 0, none⟩ = some (.int .i64 n) ∧ W.cell? ⟨p3, 1, none⟩ = some v3 ∧ W.cell? ⟨p3, 2, none⟩ = some (.int .i64 g) ∧ W.cell? ⟨p4, 0, none⟩ = some (.int .i64 n') ∧ W.cell? ⟨p4, 1, none⟩ = some v4 ∧ W.cell? ⟨p4, 2, none⟩ = some (.int .i64 g') :=
  ⟨h.ar.c0, h.ar.c1, h.ar.c2, h.x2.c0, h.x2.c1, h.x2.c2, h.x3.c0, h.x3.c1, h.x3.c2, h.x4.c0, h.x4.c1, h.x4.c2⟩
theorem eqi_own (v v' : Value) (xs : List Int) (w : World) (h : OwnI w 0 v xs) (h' : OwnI w 0 v' xs) (hl : xs.length ≤ 12) : Calls Try.prog 24 #[v, v'] w fun e w' => e = .returned (.bool true) ∧ Below w.heap.size w w' :=
  (eqint_any v v' xs xs w h.ints h'.ints (by omega) (by omega)).mono (fun e w' k => by rw [beq_self_eq_true] at k; exact k)
theorem eqr_own (v v' : Value) (xs : List (Int × Int)) (w : World) (h : OwnRg w 0 v xs) (h' : OwnRg w 0 v' xs) (hl : xs.length ≤ 1048576) : Calls Try.prog 25 #[v, v'] w fun e w' => e = .returned (.bool true) ∧ Below w.heap.size w w' :=
  (eqrs_any v v' xs xs w (Rngs.of_own h) (Rngs.of_own h') hl hl).mono (fun e w' k => by rw [beq_self_eq_true] at k; exact k)
theorem mki_own (v : Value) (xs : List Int) (w : World) (s : Int) (k : Nat) (hs : s = (k : Int)) (hk : k ≤ 1000000) (h : OwnI w 0 v xs) (hl : xs.length ≤ 12) : Calls Try.prog 27 #[v, .int .i64 s] w fun e w' => e = .returned (.int .i64 (s + (xs.length : Int))) ∧ w.grownBy w' v.ownBlock ∧ OwnI w' 0 v (marks k xs.length) := by
  subst hs
  exact (mark_any v xs 0 w k h hk (by omega)).mono (fun e w' q => ⟨q.1, q.2.1, by unfold OwnI; rw [marks_len]; exact q.2.2⟩)
theorem hdi_own (v : Value) (n : Nat) (w : World) (s : Int) (k : Nat) (hs : s = (k : Int)) (hk : k ≤ 1000000) (h : OwnI w 0 v (marks k n)) (hl : n ≤ 12) : Calls Try.prog 28 #[v, .int .i64 s] w fun e w' => e = .returned (.int .i64 (s + (n : Int))) ∧ w = w' := by
  subst hs
  exact held_any v n w k h.ints hk (by omega)
theorem OwnRg.zero {w : World} {B : Nat} {v : Value} {l : List (Int × Int)} (h : OwnRg w B v l) : OwnRg w 0 v l := h.lower (Nat.zero_le _)
theorem OwnI.zero {w : World} {B : Nat} {v : Value} {l : List Int} (h : OwnI w B v l) : OwnI w 0 v l := h.base (Nat.zero_le _)
set_option maxRecDepth 100000 in
set_option maxHeartbeats 8000000 in
theorem exla_walk (b : Ls) (ra : Option Addr) (rc : Nat) (a1 : Option Addr) (len1 cap1 : Nat) (r : List (Int × Int)) (t d : Int) (w : World) (hl : b.2.1.length ≤ 9223372036854775807) (h : Pks w (.slice ra b.2.1.length rc) b.2.1) (hn : r.length = len1 ∧ len1 ≤ 9223372036854775807) (hr : Rngs w (.slice a1 len1 cap1) r) : Calls Try.prog 6 #[.agg #[.int .i64 b.1, .slice ra b.2.1.length rc, .int .i64 b.2.2], .slice a1 len1 cap1, .int .i64 t, .int .i64 d] w fun e w' => e = .returned (.bool true) ∧ Below w.heap.size w w' := by
  obtain ⟨n, l, g⟩ := b
  obtain ⟨rfl, hn⟩ := hn
  simp only at hl h ⊢
  have H := Lib.hid h
  have HRG := Lib.hid hr
  clear h hr
  have HSZ := Lib.hid (fun W => szls_any n g ra l.length rc 1048576 W (by omega) (by omega) hl)
  have hsz := szI_cases l.length 1048576 (by omega) (by omega)
  generalize szI l.length 1048576 = z at *
  have A0 := Lib.hid (C3.new w (.int .i64 n) (.slice ra l.length rc) (.int .i64 g) 31)
  have B0 := Lib.hid ((Below.refl w.heap.size w).alloc (Nat.le_refl _) (.cells #[.int .i64 n, .slice ra l.length rc, .int .i64 g] 31))
  rcases hsz with hz | ⟨hz0, hz1, hll⟩
  · subst hz
    obtain ⟨c0, c1, c2⟩ := A0.out
    go_enter Try.func6, Try.ntmps6
    go_wp2_with fail
    refine (HSZ.out _).mono ?_
    rintro e w1 ⟨rfl, hb1⟩
    have B1 := Lib.hid (B0.out.trans (hb1.mono B0.out.size))
    clear hb1 c0 c1 c2
    go_wp2_with fail
    go_ret
    exact ⟨rfl, B1.out⟩
  have hz' : ¬ z < 0 := by omega
  have HSR : Hid (∀ W : World, Calls Try.prog 20 #[.slice a1 r.length cap1, .int .i64 z] W fun e w' => e = .returned (.int .i64 (szI r.length z)) ∧ W = w') := Lib.hid (fun W => sz_any a1 r.length cap1 z W hz0 hz1 hn)
  have hsr := szI_cases r.length z hz0 hz1
  generalize szI r.length z = z2 at *
  rcases hsr with hz2 | ⟨hz20, hz21, hrl⟩
  · subst hz2
    obtain ⟨c0, c1, c2⟩ := A0.out
    go_enter Try.func6, Try.ntmps6
    go_wp2_with fail
    refine (HSZ.out _).mono ?_
    rintro e w1 ⟨rfl, hb1⟩
    have B1 := Lib.hid (B0.out.trans (hb1.mono B0.out.size))
    clear hb1 c0 c1 c2
    go_wp2_with fail
    refine (HSR.out _).mono ?_
    rintro e w2 ⟨rfl, rfl⟩
    go_wp2_with fail
    go_ret
    exact ⟨rfl, B1.out⟩
  have hz2' : ¬ z2 < 0 := by omega
  obtain ⟨c0, c1, c2⟩ := A0.out
  go_enter Try.func6, Try.ntmps6
  go_wp2_with fail
  refine (HSZ.out _).mono ?_
  rintro e w1 ⟨rfl, hb1⟩
  have B1 := Lib.hid (B0.out.trans (hb1.mono B0.out.size))
  have A1 := Lib.hid (A0.out.below hb1)
  clear hb1 c0 c1 c2 A0 B0
  obtain ⟨c0, c1, c2⟩ := A1.out
  go_wp2_with fail
  refine (HSR.out _).mono ?_
  rintro e w2 ⟨rfl, rfl⟩
  obtain ⟨R, hR⟩ : ∃ R, lackv (n, l, g) r t d = R := ⟨_, rfl⟩
  obtain ⟨⟨⟨n', m, g'⟩, gs, lo⟩, q⟩ := R
  have hlen := lackv_len hR
  simp only at hlen
  have HR := Lib.hid hR
  clear hR
  have hqq : (q != q) = false := by cases q <;> rfl
  have TOR := Lib.hid (fun (W : World) (hb : Below w.heap.size w W) => tols_any n g l ra rc W (H.out.below hb) hll)
  have TRG := Lib.hid (fun (W : World) (hb : Below w.heap.size w W) => tors_any (.slice a1 r.length cap1) r W (HRG.out.below hb) (by omega))
  obtain ⟨c0, c1, c2⟩ := A1.out
  go_wp2_with fail
  refine (TOR.out _ B1.out).mono ?_
  rintro e w2 ⟨b2, k2, rfl, hb2, ho2⟩
  have B2 := Lib.hid (B1.out.trans (hb2.mono B1.out.size))
  have A2 := Lib.hid (A1.out.below hb2)
  have O2 := Lib.hid ho2
  clear hb2 ho2 c0 c1 c2 A1 B1
  obtain ⟨c0, c1, c2⟩ := A2.out
  go_wp2_with fail
  refine (TRG.out _ B2.out).mono ?_
  rintro e w3 ⟨xw, rfl, hb3, hor, _⟩
  have B3 := Lib.hid (B2.out.trans (hb3.mono B2.out.size))
  have A3 := Lib.hid (A2.out.below hb3)
  have S3 := Lib.hid (slackv_any n g t d _ xw l r w3 (O2.out.below hb3).pks (Rngs.of_own hor) hll (by omega))
  rw [HR.out] at S3
  clear hb3 hor c0 c1 c2 A2 B2 O2
  obtain ⟨c0, c1, c2⟩ := A3.out
  go_wp2_with fail
  refine S3.out.mono ?_
  rintro e w4 ⟨v2, gv2, lv2, rfl, ho4, hi4, hj4, hb4, _⟩
  simp only at ho4 hi4 hj4 ⊢
  have HP2 : Hid (w.heap.size < w3.heap.size ∧ w3.heap.size ≤ w4.heap.size) := Lib.hid ⟨A3.out.lt, hb4.size⟩
  have U4 := below_al w4 (.cells #[.int .i64 n', v2, .int .i64 g'] 24)
  have B4 := Lib.hid ((B3.out.trans (hb4.mono B3.out.size)).alloc (B3.out.trans (hb4.mono B3.out.size)).size (.cells #[.int .i64 n', v2, .int .i64 g'] 24))
  have A4 := Lib.hid ((A3.out.below hb4).below U4)
  have X4 := Lib.hid (C3.new w4 (.int .i64 n') v2 (.int .i64 g') 24)
  have O4 := Lib.hid (OwnPk.below (ho4.lower (Nat.zero_le _)) U4)
  have I4 := Lib.hid (OwnI.below (hi4.base (Nat.zero_le _)) U4)
  have J4 := Lib.hid (OwnI.below (hj4.base (Nat.zero_le _)) U4)
  have Q2 : Hid (∀ u ∈ [v2, gv2, lv2], ∀ b, u.ownBlock = some b → w.heap.size < b ∧ b < w4.heap.size) := Lib.hid (by
    have h2 := HP2.out
    simp only [List.mem_cons, List.not_mem_nil, or_false, forall_eq_or_imp, forall_eq]
    exact ⟨fun b hb => by have := World.ownsRow.lt ho4 b hb; omega, fun b hb => by have := World.ownsRow.lt hi4 b hb; omega, fun b hb => by have := World.ownsRow.lt hj4 b hb; omega⟩)
  obtain ⟨a2, k2', rfl⟩ := ho4.shape
  obtain ⟨ag2, kg2, rfl⟩ := hi4.shape
  obtain ⟨al2, kl2, rfl⟩ := hj4.shape
  clear hb4 ho4 hi4 hj4 U4 c0 c1 c2 A3 B3 S3
  have hs4 : Hid ((w4.alloc (.cells #[.int .i64 n', (.slice a2 m.length k2'), .int .i64 g'] 24)).heap.size = w4.heap.size + 1) := Lib.hid (by simp)
  obtain ⟨c0, c1, c2⟩ := A4.out
  go_wp2_with fail
  refine (TOR.out _ B4.out).mono ?_
  rintro e w5 ⟨b3, k3, rfl, hb5, ho5⟩
  have U5 := below_al w5 (.cells #[.int .i64 n, (.slice (some ⟨b3, 0, none⟩) l.length k3), .int .i64 g] 24)
  have hc5 := hb5.trans (U5.mono hb5.size)
  have B5 := Lib.hid (B4.out.trans (hc5.mono B4.out.size))
  have A5 := Lib.hid (A4.out.below hc5)
  have X5 := Lib.hid (X4.out.below hc5)
  have O5 := Lib.hid (O4.out.below hc5)
  have I5 := Lib.hid (I4.out.below hc5)
  have J5 := Lib.hid (J4.out.below hc5)
  have Y5 := Lib.hid (C3.new w5 (.int .i64 n) (.slice (some ⟨b3, 0, none⟩) l.length k3) (.int .i64 g) 24)
  have R5 := Lib.hid (OwnPk.below (OwnPk.zero ho5) U5)
  have Q3 : Hid (∀ b, (Value.slice (some ⟨b3, 0, none⟩) l.length k3).ownBlock = some b → w4.heap.size < b ∧ b < w5.heap.size) := Lib.hid (fun b hg => by have := World.ownsRow.lt ho5 b hg; have := hs4.out; omega)
  have S5 : Hid (w4.heap.size < w5.heap.size ∧ (w5.alloc (.cells #[.int .i64 n, (.slice (some ⟨b3, 0, none⟩) l.length k3), .int .i64 g] 24)).heap.size = w5.heap.size + 1) := Lib.hid ⟨by have := hs4.out; have := hb5.size; omega, by simp⟩
  clear hb5 ho5 U5 hc5 c0 c1 c2 A4 B4 X4 O4 I4 J4
  go_wp2_with fail
  refine (TRG.out _ B5.out).mono ?_
  rintro e w6 ⟨xw, rfl, hb6, hox6, _⟩
  have B6 := Lib.hid (B5.out.trans (hb6.mono B5.out.size))
  have A6 := Lib.hid (A5.out.below hb6)
  have X6 := Lib.hid (X5.out.below hb6)
  have O6 := Lib.hid (O5.out.below hb6)
  have I6 := Lib.hid (I5.out.below hb6)
  have J6 := Lib.hid (J5.out.below hb6)
  have Y6 := Lib.hid (Y5.out.below hb6)
  have R6 := Lib.hid (R5.out.below hb6)
  have XW6 := Lib.hid (OwnRg.zero hox6)
  have QX : Hid (∀ b, xw.ownBlock = some b → w5.heap.size < b ∧ b < w6.heap.size) := Lib.hid (fun b hg => by have := World.ownsRow.lt hox6 b hg; have := S5.out; omega)
  have S6 : Hid (w5.heap.size < w6.heap.size) := Lib.hid (by have := S5.out; have := hb6.size; omega)
  clear hb6 hox6 A5 B5 X5 O5 I5 J5 Y5 R5
  have P6 := Lib.hid (ilack_any n g t d _ xw l r w6 R6.out.pks (Rngs.of_own XW6.out) hll (by omega))
  rw [HR.out] at P6
  obtain ⟨c0, c1, c2⟩ := Y6.out
  go_wp2_with fail
  refine P6.out.mono ?_
  rintro e w7 ⟨v4, gv4, lv4, rfl, ho7, hi7, hj7, hb7, hap⟩
  simp only at ho7 hi7 hj7 ⊢
  obtain ⟨a4, k4, rfl⟩ := ho7.shape
  obtain ⟨ag4, kg4, rfl⟩ := hi7.shape
  obtain ⟨al4, kl4, rfl⟩ := hj7.shape
  have U7 := below_al w7 (.cells #[.int .i64 n', (.slice a4 m.length k4), .int .i64 g'] 24)
  have hc7 := hb7.trans (U7.mono hb7.size)
  have Q4 : ∀ u ∈ ([(.slice a4 m.length k4), (.slice ag4 gs.length kg4), (.slice al4 lo.length kl4)] : List Value), ∀ b, u.ownBlock = some b → w6.heap.size ≤ b ∧ b < w7.heap.size := by
    simp only [List.mem_cons, List.not_mem_nil, or_false, forall_eq_or_imp, forall_eq]
    exact ⟨fun b hb => World.ownsRow.lt ho7 b hb, fun b hb => World.ownsRow.lt hi7 b hb, fun b hb => World.ownsRow.lt hj7 b hb⟩
  have SP := Lib.hid (seps (s := w.heap.size) (h := w6.heap.size) ⟨Nat.lt_of_lt_of_le HP2.out.1 HP2.out.2, S5.out.1, S6.out, hb7.size⟩ Q2.out Q3.out QX.out Q4 hap)
  have Z7 : Hid (ZS w (w7.alloc (.cells #[.int .i64 n', (.slice a4 m.length k4), .int .i64 g'] 24)) n g n' g' (.slice ra l.length rc) (.slice a2 m.length k2') (.slice ag2 gs.length kg2) (.slice al2 lo.length kl2) (.slice (some ⟨b3, 0, none⟩) l.length k3) (.slice a4 m.length k4) (.slice ag4 gs.length kg4) (.slice al4 lo.length kl4) w4.heap.size w5.heap.size w7.heap.size m gs lo l m gs lo) := Lib.hid
    ⟨B6.out.trans (hc7.mono B6.out.size), A6.out.below hc7, X6.out.below hc7, Y6.out.below hc7, C3.new w7 (.int .i64 n') (.slice a4 m.length k4) (.int .i64 g') 24, O6.out.below hc7, I6.out.below hc7, J6.out.below hc7, R6.out.below hc7, (OwnPk.zero ho7).below U7, (OwnI.zero hi7).below U7, (OwnI.zero hj7).below U7⟩
  have XW7 := Lib.hid (XW6.out.below hc7)
  clear hb7 ho7 hi7 hj7 hap hc7 U7 Q4 Q2 Q3 QX S5 S6 HP2 P6 A6 B6 X6 O6 I6 J6 Y6 R6 XW6 c0 c1 c2 hs4
  generalize w4.heap.size = p2 at *
  generalize w5.heap.size = p3 at *
  have hl0 : m.length ≤ 12 := hlen.1
  have hl1 : gs.length ≤ 12 := hlen.2.1
  have hl2 : lo.length ≤ 12 := hlen.2.2
  have EQ := Lib.hid (fun (W : World) (M3 : List Pk) (x : ZS w W n g n' g' (.slice ra l.length rc) (.slice a2 m.length k2') (.slice ag2 gs.length kg2) (.slice al2 lo.length kl2) (.slice (some ⟨b3, 0, none⟩) l.length k3) (.slice a4 m.length k4) (.slice ag4 gs.length kg4) (.slice al4 lo.length kl4) p2 p3 w7.heap.size m gs lo M3 m gs lo) => eqls_any n' g' m a4 a2 k4 k2' W x.o4.pks x.o2.pks (by omega))
  have EG := Lib.hid (fun (W : World) (M3 : List Pk) (x : ZS w W n g n' g' (.slice ra l.length rc) (.slice a2 m.length k2') (.slice ag2 gs.length kg2) (.slice al2 lo.length kl2) (.slice (some ⟨b3, 0, none⟩) l.length k3) (.slice a4 m.length k4) (.slice ag4 gs.length kg4) (.slice al4 lo.length kl4) p2 p3 w7.heap.size m gs lo M3 m gs lo) => eqi_own _ _ gs W x.i4 x.i2 hl1)
  have EL := Lib.hid (fun (W : World) (M3 : List Pk) (x : ZS w W n g n' g' (.slice ra l.length rc) (.slice a2 m.length k2') (.slice ag2 gs.length kg2) (.slice al2 lo.length kl2) (.slice (some ⟨b3, 0, none⟩) l.length k3) (.slice a4 m.length k4) (.slice ag4 gs.length kg4) (.slice al4 lo.length kl4) p2 p3 w7.heap.size m gs lo M3 m gs lo) => eqi_own _ _ lo W x.j4 x.j2 hl2)
  obtain ⟨c0, c1, c2, c3, c4, c5, c6, c7, c8, c9, ca, cb⟩ := Z7.out.cells
  go_wp2_with fail
  refine (EQ.out _ _ Z7.out).mono ?_
  rintro e w8 ⟨rfl, hb8⟩
  have Z8 := Lib.hid (Z7.out.below hb8)
  have XW8 := Lib.hid (XW7.out.below hb8)
  clear hb8 c0 c1 c2 c3 c4 c5 c6 c7 c8 c9 ca cb Z7 XW7
  obtain ⟨c0, c1, c2, c3, c4, c5, c6, c7, c8, c9, ca, cb⟩ := Z8.out.cells
  go_wp2_with fail
  refine (EG.out _ _ Z8.out).mono ?_
  rintro e w9 ⟨rfl, hb9⟩
  have Z9 := Lib.hid (Z8.out.below hb9)
  have XW9 := Lib.hid (XW8.out.below hb9)
  clear hb9 c0 c1 c2 c3 c4 c5 c6 c7 c8 c9 ca cb Z8 XW8
  obtain ⟨c0, c1, c2, c3, c4, c5, c6, c7, c8, c9, ca, cb⟩ := Z9.out.cells
  go_wp2_with fail
  refine (EL.out _ _ Z9.out).mono ?_
  rintro e w10 ⟨rfl, hb10⟩
  have Z10 := Lib.hid (Z9.out.below hb10)
  have XW10 := Lib.hid (XW9.out.below hb10)
  clear hb10 c0 c1 c2 c3 c4 c5 c6 c7 c8 c9 ca cb Z9 XW9
  obtain ⟨c0, c1, c2, c3, c4, c5, c6, c7, c8, c9, ca, cb⟩ := Z10.out.cells
  have ZD := Lib.hid (Z10.out.below (Below.refl _ _).drew)
  have XD := Lib.hid (XW10.out.below (Below.refl _ _).drew)
  have kS := And.intro ZD.out.ar.c0 (And.intro ZD.out.ar.c1 (And.intro ZD.out.ar.c2 (And.intro ZD.out.x3.c0 (And.intro ZD.out.x3.c1 ZD.out.x3.c2))))
  go_wp2_with fail
  go_region_held3 (fun W => W.cell? ⟨w.heap.size, 0, none⟩ = some (.int .i64 n) ∧ W.cell? ⟨w.heap.size, 1, none⟩ = some (.slice ra l.length rc) ∧ W.cell? ⟨w.heap.size, 2, none⟩ = some (.int .i64 g) ∧ W.cell? ⟨p3, 0, none⟩ = some (.int .i64 n) ∧ W.cell? ⟨p3, 1, none⟩ = some (.slice (some ⟨b3, 0, none⟩) l.length k3) ∧ W.cell? ⟨p3, 2, none⟩ = some (.int .i64 g)) (with_reducible first | assumption | exact kS | exact kT | exact kU)
    ((first
      | (go_at_call 11; (with_reducible refine (eqls_any n g l (some ⟨b3, 0, none⟩) (some ⟨b11, 0, none⟩) k3 k11 _ Z11.out.o3.pks O11.out.pks hll).mono ?_); rintro e w12 ⟨rfl, hb12⟩; have Z12 := Lib.hid (Z11.out.below hb12); have kU := And.intro Z12.out.ar.c0 (And.intro Z12.out.ar.c1 (And.intro Z12.out.ar.c2 (And.intro Z12.out.x3.c0 (And.intro Z12.out.x3.c1 Z12.out.x3.c2)))))
      | (go_at_call 16; (with_reducible refine (TOR.out _ ZD.out.bel).mono ?_); rintro e w11 ⟨b11, k11, rfl, hb11, ho11⟩; have Z11 := Lib.hid (ZD.out.below hb11); have O11 := Lib.hid ho11; have kT := And.intro Z11.out.ar.c0 (And.intro Z11.out.ar.c1 (And.intro Z11.out.ar.c2 (And.intro Z11.out.x3.c0 (And.intro Z11.out.x3.c1 Z11.out.x3.c2)))))))
  have XW12 := Lib.hid ((XD.out.below hb11).below hb12)
  clear kS kT kU c0 c1 c2 c3 c4 c5 c6 c7 c8 c9 ca cb Z10 XW10 ZD XD Z11 O11 hb11 hb12 ho11
  obtain ⟨c0, c1, c2, c3, c4, c5, c6, c7, c8, c9, ca, cb⟩ := Z12.out.cells
  go_wp2_with fail
  refine (TRG.out _ Z12.out.bel).mono ?_
  rintro e w13 ⟨xu, rfl, hb13, ho13, _⟩
  have Z13 := Lib.hid (Z12.out.below hb13)
  have XW13 := Lib.hid (XW12.out.below hb13)
  have XU13 := Lib.hid (OwnRg.zero ho13)
  clear hb13 ho13 c0 c1 c2 c3 c4 c5 c6 c7 c8 c9 ca cb Z12 XW12
  have ER := Lib.hid (eqr_own xw xu r w13 XW13.out XU13.out hrl)
  obtain ⟨c0, c1, c2, c3, c4, c5, c6, c7, c8, c9, ca, cb⟩ := Z13.out.cells
  go_wp2_with fail
  refine (ER.out).mono ?_
  rintro e w14 ⟨rfl, hb14⟩
  have Z14 := Lib.hid (Z13.out.below hb14)
  have XW14 := Lib.hid (XW13.out.below hb14)
  clear hb14 c0 c1 c2 c3 c4 c5 c6 c7 c8 c9 ca cb Z13 XW13
  clear ER XU13
  have MK := Lib.hid (mkls_any n g _ l 0 w14 Z14.out.o3 hll)
  obtain ⟨c0, c1, c2, c3, c4, c5, c6, c7, c8, c9, ca, cb⟩ := Z14.out.cells
  go_wp2_with fail
  refine MK.out.mono ?_
  rintro e w15 ⟨rfl, hg15, ho15⟩
  have Z15 := Lib.hid (Z14.out.mark3 SP.out.1 hg15 ho15)
  have XW15 : Hid (OwnRg w15 0 xw r) := Lib.hid (World.ownsRow.kept XW14.out hg15 (SP.out.1.row (by simp)))
  clear hg15 ho15 MK Z14 XW14 c0 c1 c2 c3 c4 c5 c6 c7 c8 c9 ca cb
  have MK := Lib.hid (markf_any xw r (1 + 3 * (l.length : Int)) 0 w15 XW15.out hrl (by omega) (by omega))
  obtain ⟨c0, c1, c2, c3, c4, c5, c6, c7, c8, c9, ca, cb⟩ := Z15.out.cells
  go_wp2_with fail
  refine MK.out.mono ?_
  rintro e w16 ⟨rfl, hg16⟩
  have Z16 := Lib.hid (Z15.out.markx SP.out.2.2.2.2 hg16)
  have hk16 : ¬ (1 + 3 * (l.length : Int) + 2 * (r.length : Int)) < 0 := by omega
  clear hg16 MK Z15 XW15 c0 c1 c2 c3 c4 c5 c6 c7 c8 c9 ca cb
  obtain ⟨c0, c1, c2, c3, c4, c5, c6, c7, c8, c9, ca, cb⟩ := Z16.out.cells
  go_wp2_with fail
  refine (EQ.out _ _ Z16.out).mono ?_
  rintro e w17 ⟨rfl, hb17⟩
  have Z17 := Lib.hid (Z16.out.below hb17)
  clear hb17 c0 c1 c2 c3 c4 c5 c6 c7 c8 c9 ca cb Z16
  obtain ⟨c0, c1, c2, c3, c4, c5, c6, c7, c8, c9, ca, cb⟩ := Z17.out.cells
  go_wp2_with fail
  refine (EG.out _ _ Z17.out).mono ?_
  rintro e w18 ⟨rfl, hb18⟩
  have Z18 := Lib.hid (Z17.out.below hb18)
  clear hb18 c0 c1 c2 c3 c4 c5 c6 c7 c8 c9 ca cb Z17
  obtain ⟨c0, c1, c2, c3, c4, c5, c6, c7, c8, c9, ca, cb⟩ := Z18.out.cells
  go_wp2_with fail
  refine (EL.out _ _ Z18.out).mono ?_
  rintro e w19 ⟨rfl, hb19⟩
  have Z19 := Lib.hid (Z18.out.below hb19)
  clear hb19 c0 c1 c2 c3 c4 c5 c6 c7 c8 c9 ca cb Z18
  clear hk16 EQ EG EL
  have MK := Lib.hid (mkls_any n' g' _ m 0 w19 Z19.out.o4 (by omega))
  obtain ⟨c0, c1, c2, c3, c4, c5, c6, c7, c8, c9, ca, cb⟩ := Z19.out.cells
  go_wp2_with fail
  refine MK.out.mono ?_
  rintro e w20 ⟨rfl, hg20, ho20⟩
  have Z20 := Lib.hid (Z19.out.mark4 SP.out.2.1 hg20 ho20)
  clear hg20 ho20 MK Z19 c0 c1 c2 c3 c4 c5 c6 c7 c8 c9 ca cb
  have MK := Lib.hid (mki_own _ gs w20 (1 + 3 * (m.length : Int)) (1 + 3 * m.length) (by omega) (by omega) Z20.out.i4 hl1)
  obtain ⟨c0, c1, c2, c3, c4, c5, c6, c7, c8, c9, ca, cb⟩ := Z20.out.cells
  go_wp2_with fail
  refine MK.out.mono ?_
  rintro e w21 ⟨rfl, hg21, ho21⟩
  have Z21 := Lib.hid (Z20.out.markg SP.out.2.2.1 hg21 ho21)
  clear hg21 ho21 MK Z20 c0 c1 c2 c3 c4 c5 c6 c7 c8 c9 ca cb
  have MK := Lib.hid (mki_own _ lo w21 (1 + 3 * (m.length : Int) + (gs.length : Int)) (1 + 3 * m.length + gs.length) (by omega) (by omega) Z21.out.j4 hl2)
  obtain ⟨c0, c1, c2, c3, c4, c5, c6, c7, c8, c9, ca, cb⟩ := Z21.out.cells
  go_wp2_with fail
  refine MK.out.mono ?_
  rintro e w22 ⟨rfl, hg22, ho22⟩
  have Z22 := Lib.hid (Z21.out.markl SP.out.2.2.2.1 hg22 ho22)
  clear hg22 ho22 MK Z21 c0 c1 c2 c3 c4 c5 c6 c7 c8 c9 ca cb
  have hk1 : ¬ (1 + 3 * (m.length : Int)) < 0 := by omega
  have hk2 : ¬ (1 + 3 * (m.length : Int) + (gs.length : Int)) < 0 := by omega
  have hk3 : ¬ (1 + 3 * (m.length : Int) + (gs.length : Int) + (lo.length : Int)) < 0 := by omega
  have hk4 : ((1 + 3 * (m.length : Int) + (gs.length : Int) + (lo.length : Int)) != (1 + 3 * (m.length : Int) + (gs.length : Int) + (lo.length : Int))) = false := by simp
  have HD := Lib.hid (fun (W : World) (x : ZS w W n g n' g' (.slice ra l.length rc) (.slice a2 m.length k2') (.slice ag2 gs.length kg2) (.slice al2 lo.length kl2) (.slice (some ⟨b3, 0, none⟩) l.length k3) (.slice a4 m.length k4) (.slice ag4 gs.length kg4) (.slice al4 lo.length kl4) p2 p3 w7.heap.size m gs lo (pmarks l.length) (pmarks m.length) (marks (1 + 3 * m.length) gs.length) (marks (1 + 3 * m.length + gs.length) lo.length)) => hdls_any n' g' a4 m.length k4 W x.o4.pks (by omega))
  have HG := Lib.hid (fun (W : World) (x : ZS w W n g n' g' (.slice ra l.length rc) (.slice a2 m.length k2') (.slice ag2 gs.length kg2) (.slice al2 lo.length kl2) (.slice (some ⟨b3, 0, none⟩) l.length k3) (.slice a4 m.length k4) (.slice ag4 gs.length kg4) (.slice al4 lo.length kl4) p2 p3 w7.heap.size m gs lo (pmarks l.length) (pmarks m.length) (marks (1 + 3 * m.length) gs.length) (marks (1 + 3 * m.length + gs.length) lo.length)) => hdi_own _ gs.length W (1 + 3 * (m.length : Int)) (1 + 3 * m.length) (by omega) (by omega) x.i4 hl1)
  have HL := Lib.hid (fun (W : World) (x : ZS w W n g n' g' (.slice ra l.length rc) (.slice a2 m.length k2') (.slice ag2 gs.length kg2) (.slice al2 lo.length kl2) (.slice (some ⟨b3, 0, none⟩) l.length k3) (.slice a4 m.length k4) (.slice ag4 gs.length kg4) (.slice al4 lo.length kl4) p2 p3 w7.heap.size m gs lo (pmarks l.length) (pmarks m.length) (marks (1 + 3 * m.length) gs.length) (marks (1 + 3 * m.length + gs.length) lo.length)) => hdi_own _ lo.length W (1 + 3 * (m.length : Int) + (gs.length : Int)) (1 + 3 * m.length + gs.length) (by omega) (by omega) x.j4 hl2)
  obtain ⟨c0, c1, c2, c3, c4, c5, c6, c7, c8, c9, ca, cb⟩ := Z22.out.cells
  go_wp2_with fail
  refine (HD.out _ Z22.out).mono ?_
  rintro e w23 ⟨rfl, hb23⟩
  have Z23 := Lib.hid (Z22.out.below hb23)
  clear hb23 c0 c1 c2 c3 c4 c5 c6 c7 c8 c9 ca cb Z22
  obtain ⟨c0, c1, c2, c3, c4, c5, c6, c7, c8, c9, ca, cb⟩ := Z23.out.cells
  go_wp2_with fail
  refine (HG.out _ Z23.out).mono ?_
  rintro e w113 ⟨rfl, rfl⟩
  clear c0 c1 c2 c3 c4 c5 c6 c7 c8 c9 ca cb
  obtain ⟨c0, c1, c2, c3, c4, c5, c6, c7, c8, c9, ca, cb⟩ := Z23.out.cells
  go_wp2_with fail
  refine (HL.out _ Z23.out).mono ?_
  rintro e w113 ⟨rfl, rfl⟩
  clear c0 c1 c2 c3 c4 c5 c6 c7 c8 c9 ca cb
  obtain ⟨c0, c1, c2, c3, c4, c5, c6, c7, c8, c9, ca, cb⟩ := Z23.out.cells
  go_wp2_with fail
  refine (TOR.out _ Z23.out.bel).mono ?_
  rintro e w24 ⟨b24, k24, rfl, hb24, ho24⟩
  have Z24 := Lib.hid (Z23.out.below hb24)
  have O24 := Lib.hid (OwnPk.zero ho24)
  clear hb24 ho24 c0 c1 c2 c3 c4 c5 c6 c7 c8 c9 ca cb Z23
  obtain ⟨c0, c1, c2, c3, c4, c5, c6, c7, c8, c9, ca, cb⟩ := Z24.out.cells
  go_wp2_with fail
  refine (TRG.out _ Z24.out.bel).mono ?_
  rintro e w25 ⟨xu, rfl, hb25, ho25, _⟩
  have Z25 := Lib.hid (Z24.out.below hb25)
  have P25 := Lib.hid (ilack_any n g t d _ xu l r w25 (O24.out.below hb25).pks (Rngs.of_own ho25) hll (by omega))
  rw [HR.out] at P25
  clear hb25 ho25 c0 c1 c2 c3 c4 c5 c6 c7 c8 c9 ca cb Z24 O24
  obtain ⟨c0, c1, c2, c3, c4, c5, c6, c7, c8, c9, ca, cb⟩ := Z25.out.cells
  go_wp2_with fail
  refine P25.out.mono ?_
  rintro e w26 ⟨v6, gv6, lv6, rfl, ho26, hi26, hj26, hb26, _⟩
  simp only at ho26 hi26 hj26 ⊢
  obtain ⟨a6, k6, rfl⟩ := ho26.shape
  obtain ⟨ag6, kg6, rfl⟩ := hi26.shape
  obtain ⟨al6, kl6, rfl⟩ := hj26.shape
  have U26 := below_al w26 (.cells #[.int .i64 n', .slice a6 m.length k6, .int .i64 g'] 24)
  have Z26 := Lib.hid ((Z25.out.below hb26).below U26)
  have D26 := Lib.hid (C3.new w26 (.int .i64 n') (.slice a6 m.length k6) (.int .i64 g') 24)
  have O26 := Lib.hid ((OwnPk.zero ho26).below U26)
  have I26 := Lib.hid ((OwnI.zero hi26).below U26)
  have J26 := Lib.hid ((OwnI.zero hj26).below U26)
  clear U26 hb26 ho26 hi26 hj26 c0 c1 c2 c3 c4 c5 c6 c7 c8 c9 ca cb Z25 P25
  have E1 := Lib.hid (eqls_any n' g' m a6 a2 k6 k2' _ O26.out.pks Z26.out.o2.pks (by omega))
  obtain ⟨c0, c1, c2, c3, c4, c5, c6, c7, c8, c9, ca, cb⟩ := Z26.out.cells
  obtain ⟨d0, d1, d2⟩ := D26.out
  go_wp2_with fail
  refine E1.out.mono ?_
  rintro e w27 ⟨rfl, hb27⟩
  have Z27 := Lib.hid (Z26.out.below hb27)
  have I27 := Lib.hid (I26.out.below hb27)
  have J27 := Lib.hid (J26.out.below hb27)
  clear hb27 c0 c1 c2 c3 c4 c5 c6 c7 c8 c9 ca cb d0 d1 d2 Z26 D26 O26 I26 J26 E1
  have E1 := Lib.hid (eqi_own _ _ gs _ I27.out Z27.out.i2 hl1)
  obtain ⟨c0, c1, c2, c3, c4, c5, c6, c7, c8, c9, ca, cb⟩ := Z27.out.cells
  go_wp2_with fail
  refine E1.out.mono ?_
  rintro e w28 ⟨rfl, hb28⟩
  have Z28 := Lib.hid (Z27.out.below hb28)
  have J28 := Lib.hid (J27.out.below hb28)
  clear hb28 c0 c1 c2 c3 c4 c5 c6 c7 c8 c9 ca cb Z27 I27 J27 E1
  have E1 := Lib.hid (eqi_own _ _ lo _ J28.out Z28.out.j2 hl2)
  obtain ⟨c0, c1, c2, c3, c4, c5, c6, c7, c8, c9, ca, cb⟩ := Z28.out.cells
  go_wp2_with fail
  refine E1.out.mono ?_
  rintro e w29 ⟨rfl, hb29⟩
  have Z29 := Lib.hid (Z28.out.below hb29)
  clear hb29 c0 c1 c2 c3 c4 c5 c6 c7 c8 c9 ca cb Z28 J28 E1
  obtain ⟨c0, c1, c2, c3, c4, c5, c6, c7, c8, c9, ca, cb⟩ := Z29.out.cells
  go_wp2_with fail
  refine (HD.out _ Z29.out).mono ?_
  rintro e w30 ⟨rfl, hb30⟩
  have Z30 := Lib.hid (Z29.out.below hb30)
  clear hb30 c0 c1 c2 c3 c4 c5 c6 c7 c8 c9 ca cb Z29
  obtain ⟨c0, c1, c2, c3, c4, c5, c6, c7, c8, c9, ca, cb⟩ := Z30.out.cells
  go_wp2_with fail
  refine (HG.out _ Z30.out).mono ?_
  rintro e w120 ⟨rfl, rfl⟩
  clear c0 c1 c2 c3 c4 c5 c6 c7 c8 c9 ca cb
  obtain ⟨c0, c1, c2, c3, c4, c5, c6, c7, c8, c9, ca, cb⟩ := Z30.out.cells
  go_wp2_with fail
  refine (HL.out _ Z30.out).mono ?_
  rintro e w120 ⟨rfl, rfl⟩
  clear c0 c1 c2 c3 c4 c5 c6 c7 c8 c9 ca cb
  go_wp2_with fail
  go_ret
  exact ⟨rfl, Z30.out.bel⟩

end Go.Proofs.Ytccolpaenmebeaa
