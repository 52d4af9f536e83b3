/- The program's LossAck. -/
import Derived.Test.YtccolpaenmebeaaIVm
import Derived.Test.YtccolpaenmebeaaIVk
import Derived.Test.YtccolpaenmebeaaIFo
import Derived.Test.YtccolpaenmebeaaIFp
import Derived.Test.YtccolpaenmebeaaIRa
import Derived.Test.YtccolpaenmebeaaIRb
import Derived.Test.YtccolpaenmebeaaUpq
import Derived.Deep.RegionHeld3
import Derived.Deep.CutBlock
namespace Go.Proofs.Ytccolpaenmebeaa
open Go.RowKit
set_option linter.unusedVariables false
set_option linter.unusedSimpArgs false

/-- Where a call of LossAck stands: its arguments' blocks, its result's. -/
structure LaAt (w W : World) (n g t d : Int) (v av : Value) : Prop where
  bl : Below w.heap.size w W
  x : C3 W w.heap.size (.int .i64 n) v (.int .i64 g)
  a : W.cell? ⟨w.heap.size + 1, 0, none⟩ = some av
  t : W.cell? ⟨w.heap.size + 1 + 1, 0, none⟩ = some (.int .i64 t)
  d : W.cell? ⟨w.heap.size + 1 + 1 + 1, 0, none⟩ = some (.int .i64 d)
  z : C3 W (w.heap.size + 1 + 1 + 1 + 1) (.int .i64 0) (.slice none 0 0) (.int .i64 0)
  zf : Soft W (w.heap.size + 1 + 1 + 1 + 1)
theorem LaAt.below {w W W' : World} {n g t d : Int} {v av : Value} (h : LaAt w W n g t d v av) {B : Nat} (hb : Below B W W') (hB : w.heap.size + 1 + 1 + 1 + 1 < B) : LaAt w W' n g t d v av :=
  ⟨h.bl.trans (hb.mono (by omega)), ⟨(hb.cell (p := ⟨w.heap.size, 0, none⟩) (by show w.heap.size < B; omega)).trans h.x.c0, (hb.cell (p := ⟨w.heap.size, 1, none⟩) (by show w.heap.size < B; omega)).trans h.x.c1, (hb.cell (p := ⟨w.heap.size, 2, none⟩) (by show w.heap.size < B; omega)).trans h.x.c2⟩,
   (hb.cell (p := ⟨w.heap.size + 1, 0, none⟩) (by show w.heap.size + 1 < B; omega)).trans h.a, (hb.cell (p := ⟨w.heap.size + 1 + 1, 0, none⟩) (by show w.heap.size + 1 + 1 < B; omega)).trans h.t, (hb.cell (p := ⟨w.heap.size + 1 + 1 + 1, 0, none⟩) (by show w.heap.size + 1 + 1 + 1 < B; omega)).trans h.d,
   ⟨(hb.cell (p := ⟨w.heap.size + 1 + 1 + 1 + 1, 0, none⟩) hB).trans h.z.c0, (hb.cell (p := ⟨w.heap.size + 1 + 1 + 1 + 1, 1, none⟩) hB).trans h.z.c1, (hb.cell (p := ⟨w.heap.size + 1 + 1 + 1 + 1, 2, none⟩) hB).trans h.z.c2⟩, fun i => (hb.frozen (p := ⟨w.heap.size + 1 + 1 + 1 + 1, i, none⟩) hB).trans (h.zf i)⟩
theorem LaAt.up {w W W' : World} {n g t d : Int} {v av : Value} (h : LaAt w W n g t d v av) (hb : Below W.heap.size W W') : LaAt w W' n g t d v av := h.below hb h.z.lt
theorem one_new (w : World) (v : Value) (T : TypeId) : (w.alloc (.cells #[v] T)).cell? ⟨w.heap.size, 0, none⟩ = some v := by rw [World.cell?_alloc_mark]; rfl
theorem LaAt.new (w : World) (n g t d : Int) (v av : Value) : LaAt w (((((w.alloc (.cells #[.int .i64 n, v, .int .i64 g] 24)).alloc (.cells #[av] 44)).alloc (.cells #[.int .i64 t] 3)).alloc (.cells #[.int .i64 d] 3)).alloc (.cells #[.int .i64 0, .slice none 0 0, .int .i64 0] 24)) n g t d v av := by
  have B0 := (Below.refl w.heap.size w).alloc (Nat.le_refl _) (.cells #[.int .i64 n, v, .int .i64 g] 24)
  have X0 := C3.new w (.int .i64 n) v (.int .i64 g) 24
  obtain ⟨w1, h1⟩ : ∃ x, w.alloc (.cells #[.int .i64 n, v, .int .i64 g] 24) = x := ⟨_, rfl⟩
  have s1 : w1.heap.size = w.heap.size + 1 := by rw [← h1]; simp
  rw [h1] at B0 X0 ⊢
  have A1 := one_new w1 av 44
  have B1 := (Below.refl w1.heap.size w1).alloc (Nat.le_refl _) (.cells #[av] 44)
  obtain ⟨w2, h2⟩ : ∃ x, w1.alloc (.cells #[av] 44) = x := ⟨_, rfl⟩
  have s2 : w2.heap.size = w.heap.size + 1 + 1 := by rw [← h2]; simp [s1]
  rw [h2] at A1 B1 ⊢
  have A2 := one_new w2 (.int .i64 t) 3
  have B2 := (Below.refl w2.heap.size w2).alloc (Nat.le_refl _) (.cells #[.int .i64 t] 3)
  obtain ⟨w3, h3⟩ : ∃ x, w2.alloc (.cells #[.int .i64 t] 3) = x := ⟨_, rfl⟩
  have s3 : w3.heap.size = w.heap.size + 1 + 1 + 1 := by rw [← h3]; simp [s2]
  rw [h3] at A2 B2 ⊢
  have A3 := one_new w3 (.int .i64 d) 3
  have B3 := (Below.refl w3.heap.size w3).alloc (Nat.le_refl _) (.cells #[.int .i64 d] 3)
  obtain ⟨w4, h4⟩ : ∃ x, w3.alloc (.cells #[.int .i64 d] 3) = x := ⟨_, rfl⟩
  have s4 : w4.heap.size = w.heap.size + 1 + 1 + 1 + 1 := by rw [← h4]; simp [s3]
  rw [h4] at A3 B3 ⊢
  have Z := C3.new w4 (.int .i64 0) (.slice none 0 0) (.int .i64 0) 24
  have ZF := Soft.new w4 #[.int .i64 0, .slice none 0 0, .int .i64 0] 24
  have B4 := (Below.refl w4.heap.size w4).alloc (Nat.le_refl _) (.cells #[.int .i64 0, .slice none 0 0, .int .i64 0] 24)
  rw [s1] at A1; rw [s2] at A2; rw [s3] at A3; rw [s4] at Z ZF
  refine ⟨(((B0.trans (B1.mono (by omega))).trans (B2.mono (by omega))).trans (B3.mono (by omega))).trans (B4.mono (by omega)), (((X0.below B1).below B2).below B3).below B4, ?_, ?_, ?_, Z, ZF⟩
  · exact (B4.cell (p := ⟨w.heap.size + 1, 0, none⟩) (by show w.heap.size + 1 < _; omega)).trans ((B3.cell (p := ⟨w.heap.size + 1, 0, none⟩) (by show w.heap.size + 1 < _; omega)).trans ((B2.cell (p := ⟨w.heap.size + 1, 0, none⟩) (by show w.heap.size + 1 < _; omega)).trans A1))
  · exact (B4.cell (p := ⟨w.heap.size + 1 + 1, 0, none⟩) (by show w.heap.size + 1 + 1 < _; omega)).trans ((B3.cell (p := ⟨w.heap.size + 1 + 1, 0, none⟩) (by show w.heap.size + 1 + 1 < _; omega)).trans A2)
  · exact (B4.cell (p := ⟨w.heap.size + 1 + 1 + 1, 0, none⟩) (by show w.heap.size + 1 + 1 + 1 < _; omega)).trans A3
/-- The result's cells are written. -/
abbrev setA (w W : World) (n g : Int) (v : Value) : World := ((W.setCell ⟨w.heap.size + 1 + 1 + 1 + 1, 0, none⟩ (.int .i64 n)).setCell ⟨w.heap.size + 1 + 1 + 1 + 1, 1, none⟩ v).setCell ⟨w.heap.size + 1 + 1 + 1 + 1, 2, none⟩ (.int .i64 g)
theorem LaAt.res {w W : World} {n g t d n' g' : Int} {v av v' : Value} (h : LaAt w W n g t d v av) : C3 (setA w W n' g' v') (w.heap.size + 1 + 1 + 1 + 1) (.int .i64 n') v' (.int .i64 g') ∧ Below w.heap.size w (setA w W n' g' v') :=
  ⟨((h.z.set0 _).set1 _).set2 _, ((h.bl.setCell (p := ⟨w.heap.size + 1 + 1 + 1 + 1, 0, none⟩) (by show w.heap.size ≤ w.heap.size + 1 + 1 + 1 + 1; omega) _).setCell (p := ⟨w.heap.size + 1 + 1 + 1 + 1, 1, none⟩) (by show w.heap.size ≤ w.heap.size + 1 + 1 + 1 + 1; omega) _).setCell (p := ⟨w.heap.size + 1 + 1 + 1 + 1, 2, none⟩) (by show w.heap.size ≤ w.heap.size + 1 + 1 + 1 + 1; omega) _⟩
theorem own_setA {T : TypeId} {k m : Nat} {xs : List Value} {w W : World} {B : Nat} {n' g' : Int} {u v' : Value} (h : W.ownsRow B T k u m xs) (hB : w.heap.size + 1 + 1 + 1 + 1 < B) : (setA w W n' g' v').ownsRow B T k u m xs := by
  have hw : u.ownBlock ≠ some (w.heap.size + 1 + 1 + 1 + 1) := fun e => by have := (World.ownsRow.lt h _ e).1; omega
  have st : ∀ (V : World) (i : Nat) (x : Value), V.ownsRow B T k u m xs → (V.setCell ⟨w.heap.size + 1 + 1 + 1 + 1, i, none⟩ x).ownsRow B T k u m xs := fun V i x hv => World.ownsRow.kept hv (Lib.grownBy_setCell V (w.heap.size + 1 + 1 + 1 + 1) i x) (by cases hq : u.ownBlock with | none => exact .inl rfl | some g => exact .inr (by rw [← hq]; exact hw))
  exact st _ _ _ (st _ _ _ (st _ _ _ h))

/-- .. and the variable 'largest' in a block behind it. -/
structure LtAt (w W2 W : World) (n g t d : Int) (v av : Value) (top : Int) : Prop where
  la : LaAt w W n g t d v av
  tp : W.cell? ⟨W2.heap.size, 0, none⟩ = some (.int .i64 top)
  up : Below W2.heap.size W2 W
  lt : w.heap.size + 1 + 1 + 1 + 1 < W2.heap.size ∧ W2.heap.size < W.heap.size
theorem LtAt.a {w W2 : World} {n g t d : Int} {v av : Value} (h : LaAt w W2 n g t d v av) (top : Int) : LtAt w W2 (W2.drew.alloc (.cells #[.int .i64 top] 3)) n g t d v av top := by
  have hb := (Below.refl W2.heap.size W2).drew.alloc (Nat.le_refl _) (.cells #[.int .i64 top] 3)
  exact ⟨h.up hb, one_new W2.drew _ _, hb, h.z.lt, by simp⟩
theorem LtAt.b {w W2 : World} {n g t d : Int} {v av : Value} (h : LaAt w W2 n g t d v av) (top : Int) : LtAt w W2 ((W2.alloc (.cells #[.int .i64 0] 3)).drew.setCell ⟨W2.heap.size, 0, none⟩ (.int .i64 top)) n g t d v av top := by
  have hb := (((Below.refl W2.heap.size W2).alloc (Nat.le_refl _) (.cells #[.int .i64 0] 3)).drew).setCell (p := ⟨W2.heap.size, 0, none⟩) (Nat.le_refl _) (.int .i64 top)
  exact ⟨h.up hb, World.cell?_setCell_same _ _ _ (one_new W2 _ _), hb, h.z.lt, by simp⟩
theorem LtAt.below {w W2 W W' : World} {n g t d : Int} {v av : Value} {top : Int} (h : LtAt w W2 W n g t d v av top) {B : Nat} (hb : Below B W W') (hB : W2.heap.size < B) : LtAt w W2 W' n g t d v av top :=
  ⟨h.la.below hb (by have := h.lt.1; omega), (hb.cell (p := ⟨W2.heap.size, 0, none⟩) hB).trans h.tp, h.up.trans (hb.mono (by omega)), h.lt.1, by have := hb.size; have := h.lt.2; omega⟩

theorem LtAt.setA {w W2 W : World} {n g t d : Int} {v av : Value} {top n' g' : Int} {v' : Value} (h : LtAt w W2 W n g t d v av top) : (setA w W n' g' v').cell? ⟨w.heap.size, 0, none⟩ = some (.int .i64 n) ∧ (setA w W n' g' v').cell? ⟨W2.heap.size, 0, none⟩ = some (.int .i64 top) := by
  have hl := h.lt.1
  have st : ∀ (V : World) (b i : Nat) (x u : Value), w.heap.size + 1 + 1 + 1 + 1 ≠ b → V.cell? ⟨b, 0, none⟩ = some u → (V.setCell ⟨w.heap.size + 1 + 1 + 1 + 1, i, none⟩ x).cell? ⟨b, 0, none⟩ = some u := fun V b i x u hb hc => (World.cell?_of_block (w := V) (keep_set hb)).trans hc
  exact ⟨st _ _ _ _ _ (by omega) (st _ _ _ _ _ (by omega) (st _ _ _ _ _ (by omega) h.la.x.c0)), st _ _ _ _ _ (by omega) (st _ _ _ _ _ (by omega) (st _ _ _ _ _ (by omega) h.tp))⟩
theorem own_keep {w w' : World} {B n k : Nat} {T : TypeId} {v : Value} {xs : List Value} (h : w.ownsRow B T k v n xs) (hb : ∀ q, v.ownBlock = some q → w'.heap[q]? = w.heap[q]?) : w'.ownsRow B T k v n xs := by
  obtain ⟨h0, h | ⟨g, c, cur, h1, h2, h3, h4⟩⟩ := h
  · exact ⟨h0, .inl h⟩
  · refine ⟨h0, .inr ⟨g, c, cur, h1, h2, ?_, h4⟩⟩
    rw [hb g (by rw [h1]; rfl)]; exact h3

set_option maxRecDepth 100000 in
set_option maxHeartbeats 8000000 in
theorem ilack_any (n g t d : Int) (v av : Value) (l : List Pk) (r : List (Int × Int)) (w : World) (hs : Pks w v l) (hr : Rngs w av r) (hl : l.length ≤ 1048576) (hrl : r.length ≤ 1048576) : Calls Try.prog 23 #[.agg #[.int .i64 n, v, .int .i64 g], av, .int .i64 t, .int .i64 d] w (AckV w (lackv (n, l, g) r t d)) := by
  have HS := Lib.hid hs
  have HR := Lib.hid hr
  obtain ⟨a, c, rfl, hcc, hs⟩ := hs
  obtain ⟨ra, rc, rfl, hr⟩ := hr
  clear hs hcc hr
  obtain ⟨W1, hW1⟩ : ∃ W1, ((((w.alloc (.cells #[.int .i64 n, .slice a l.length c, .int .i64 g] 24)).alloc (.cells #[.slice ra r.length rc] 44)).alloc (.cells #[.int .i64 t] 3)).alloc (.cells #[.int .i64 d] 3)).alloc (.cells #[.int .i64 0, .slice none 0 0, .int .i64 0] 24) = W1 := ⟨_, rfl⟩
  have HW1 := Lib.hid hW1
  have A1 := Lib.hid (show LaAt w W1 n g t d (.slice a l.length c) (.slice ra r.length rc) by rw [← hW1]; exact LaAt.new _ _ _ _ _ _ _)
  have CV : Hid (∀ b, decide (lok (n, l, g)) = b → ∀ m : Up W1, Calls Try.prog 17 #[.agg #[.int .i64 n, .slice a l.length c, .int .i64 g]] m.w fun e w' => e = .returned (.bool b) ∧ ∃ m' : Up W1, w' = m'.w) := Lib.hid fun b hb => up_call fun W h => (ilval_any n g _ l W (HS.out.below (A1.out.bl.trans (h.mono A1.out.bl.size))) hl).mono fun e w' k => by rw [hb] at k; exact k
  have CR : Hid (∀ b, rvalid r = b → ∀ m : Up W1, Calls Try.prog 49 #[.slice ra r.length rc] m.w fun e w' => e = .returned (.bool b) ∧ ∃ m' : Up W1, w' = m'.w) := Lib.hid fun b hb => up_call fun W h => (ivalid_any _ r W (HR.out.below (A1.out.bl.trans (h.mono A1.out.bl.size))) hrl).mono fun e w' k => by rw [hb] at k; exact k
  have CL : Hid (∀ b, lastN r = b → ∀ m : Up W1, Calls Try.prog 50 #[.slice ra r.length rc] m.w fun e w' => e = .returned (.int .i64 b) ∧ ∃ m' : Up W1, w' = m'.w) := Lib.hid fun b hb => up_call fun W h => (lastNumber_any _ r W (HR.out.below (A1.out.bl.trans (h.mono A1.out.bl.size))) hrl).mono fun e w' k => by rw [hb] at k; exact ⟨k.1, k.2 ▸ Below.refl _ _⟩
  have CT : Hid (∀ b, decide (0 ≤ t ∧ t ≤ 999) = b → ∀ m : Up W1, Calls Try.prog 39 #[.int .i64 t, .int .i64 999] m.w fun e w' => e = .returned (.bool b) ∧ ∃ m' : Up W1, w' = m'.w) := Lib.hid fun b hb => up_call fun W h => (upTo_any t 999 W).mono fun e w' k => by rw [hb] at k; exact ⟨k.1, k.2 ▸ Below.refl _ _⟩
  have CD : Hid (∀ b, decide (1 ≤ d ∧ d ≤ 1998) = b → ∀ m : Up W1, Calls Try.prog 51 #[.int .i64 d] m.w fun e w' => e = .returned (.bool b) ∧ ∃ m' : Up W1, w' = m'.w) := Lib.hid fun b hb => up_call fun W h => (isDelay_any d W).mono fun e w' k => by rw [hb] at k; exact ⟨k.1, k.2 ▸ Below.refl _ _⟩
  obtain ⟨ln, hln⟩ : ∃ ln, lastN r = ln := ⟨_, rfl⟩
  have HLN := Lib.hid hln
  have CL1 := Lib.hid (CL.out ln hln)
  clear hW1 hln
  by_cases hv : lok (n, l, g)
  case neg =>
    have CV1 := Lib.hid (CV.out false (decide_eq_false hv))
    have HF := Lib.hid (lackv_no (s := (n, l, g)) (a := r) (now := t) (delay := d) fun h => hv h.1)
    clear hv CV CR CL CT CD
    go_enter Try.func23, Try.ntmps23
    go_wp2_with fail
    rw [HW1.out]
    have q0 := Up.cell A1.out.x.c0
    have q1 := Up.cell A1.out.x.c1
    have q2 := Up.cell A1.out.x.c2
    have q3 := Up.cell A1.out.a
    have q4 := Up.cell A1.out.t
    have q5 := Up.cell A1.out.d
    refine up_region W1 (Below.refl _ _) (by kernel_rfl) (by kernel_rfl) ?_
    repeat (go_big_quiet_step (first | (go_at_call 17; (with_reducible exact CV1.out _)) | (go_at_call 50; (with_reducible exact CL1.out _))))
    refine wpQuiet_nil ?_
    rintro W2 ⟨⟨W2x, hb2⟩, hw2⟩
    have hw2' : W2 = W2x := hw2
    subst hw2'
    have A2 := Lib.hid (A1.out.up hb2)
    clear q0 q1 q2 q3 q4 q5 hb2 hw2
    obtain ⟨z0, z1, z2⟩ := A2.out.z
    have f0 := A2.out.zf 0
    have f1 := A2.out.zf 1
    have f2 := A2.out.zf 2
    have RR := Lib.hid (A2.out.res (n' := 0) (g' := 0) (v' := .slice none 0 0))
    go_wp2_with fail
    unfold setA at RR
    generalize ((W2.setCell ⟨w.heap.size + 1 + 1 + 1 + 1, 0, none⟩ (.int .i64 0)).setCell ⟨w.heap.size + 1 + 1 + 1 + 1, 1, none⟩ (.slice none 0 0)).setCell ⟨w.heap.size + 1 + 1 + 1 + 1, 2, none⟩ (.int .i64 0) = WF at RR ⊢
    clear z0 z1 z2 f0 f1 f2
    obtain ⟨k0, k1, k2⟩ := RR.out.1
    refine bodyPost_ret (v := .tuple #[.agg #[.int .i64 0, .slice none 0 0, .int .i64 0], .slice none 0 0, .slice none 0 0, .bool false]) ?hr rfl ?_
    case hr => rw [results_cttt rfl]; go_simp
    rw [HF.out]
    exact AckV.no w _ RR.out.2
  have CV1 := Lib.hid (CV.out true (decide_eq_true hv))
  cases hrv : rvalid r
  case false =>
    have CR1 := Lib.hid (CR.out false hrv)
    have HF := Lib.hid (lackv_no (s := (n, l, g)) (a := r) (now := t) (delay := d) fun h => by have := h.2.1; rw [hrv] at this; cases this)
    clear hv CV CR CL CT CD hrv
    go_enter Try.func23, Try.ntmps23
    go_wp2_with fail
    rw [HW1.out]
    have q0 := Up.cell A1.out.x.c0
    have q1 := Up.cell A1.out.x.c1
    have q2 := Up.cell A1.out.x.c2
    have q3 := Up.cell A1.out.a
    have q4 := Up.cell A1.out.t
    have q5 := Up.cell A1.out.d
    refine up_region W1 (Below.refl _ _) (by kernel_rfl) (by kernel_rfl) ?_
    repeat (go_big_quiet_step (first | (go_at_call 17; (with_reducible exact CV1.out _)) | (go_at_call 49; (with_reducible exact CR1.out _)) | (go_at_call 50; (with_reducible exact CL1.out _))))
    refine wpQuiet_nil ?_
    rintro W2 ⟨⟨W2x, hb2⟩, hw2⟩
    have hw2' : W2 = W2x := hw2
    subst hw2'
    have A2 := Lib.hid (A1.out.up hb2)
    clear q0 q1 q2 q3 q4 q5 hb2 hw2
    obtain ⟨z0, z1, z2⟩ := A2.out.z
    have f0 := A2.out.zf 0
    have f1 := A2.out.zf 1
    have f2 := A2.out.zf 2
    have RR := Lib.hid (A2.out.res (n' := 0) (g' := 0) (v' := .slice none 0 0))
    go_wp2_with fail
    unfold setA at RR
    generalize ((W2.setCell ⟨w.heap.size + 1 + 1 + 1 + 1, 0, none⟩ (.int .i64 0)).setCell ⟨w.heap.size + 1 + 1 + 1 + 1, 1, none⟩ (.slice none 0 0)).setCell ⟨w.heap.size + 1 + 1 + 1 + 1, 2, none⟩ (.int .i64 0) = WF at RR ⊢
    clear z0 z1 z2 f0 f1 f2
    obtain ⟨k0, k1, k2⟩ := RR.out.1
    refine bodyPost_ret (v := .tuple #[.agg #[.int .i64 0, .slice none 0 0, .int .i64 0], .slice none 0 0, .slice none 0 0, .bool false]) ?hr rfl ?_
    case hr => rw [results_cttt rfl]; go_simp
    rw [HF.out]
    exact AckV.no w _ RR.out.2
  have CR1 := Lib.hid (CR.out true hrv)
  by_cases hln : n ≤ ln
  case pos =>
    have hd := decide_eq_true hln
    have HF := Lib.hid (lackv_no (s := (n, l, g)) (a := r) (now := t) (delay := d) fun h => by have := h.2.2.1; rw [HLN.out] at this; simp only at this; omega)
    clear hv CV CR CL CT CD hrv
    go_enter Try.func23, Try.ntmps23
    go_wp2_with fail
    rw [HW1.out]
    have q0 := Up.cell A1.out.x.c0
    have q1 := Up.cell A1.out.x.c1
    have q2 := Up.cell A1.out.x.c2
    have q3 := Up.cell A1.out.a
    have q4 := Up.cell A1.out.t
    have q5 := Up.cell A1.out.d
    refine up_region W1 (Below.refl _ _) (by kernel_rfl) (by kernel_rfl) ?_
    repeat (go_big_quiet_step (first | (go_at_call 17; (with_reducible exact CV1.out _)) | (go_at_call 49; (with_reducible exact CR1.out _)) | (go_at_call 50; (with_reducible exact CL1.out _))))
    refine wpQuiet_nil ?_
    rintro W2 ⟨⟨W2x, hb2⟩, hw2⟩
    have hw2' : W2 = W2x := hw2
    subst hw2'
    have A2 := Lib.hid (A1.out.up hb2)
    clear q0 q1 q2 q3 q4 q5 hb2 hw2
    obtain ⟨z0, z1, z2⟩ := A2.out.z
    have f0 := A2.out.zf 0
    have f1 := A2.out.zf 1
    have f2 := A2.out.zf 2
    have RR := Lib.hid (A2.out.res (n' := 0) (g' := 0) (v' := .slice none 0 0))
    go_wp2_with fail
    unfold setA at RR
    generalize ((W2.setCell ⟨w.heap.size + 1 + 1 + 1 + 1, 0, none⟩ (.int .i64 0)).setCell ⟨w.heap.size + 1 + 1 + 1 + 1, 1, none⟩ (.slice none 0 0)).setCell ⟨w.heap.size + 1 + 1 + 1 + 1, 2, none⟩ (.int .i64 0) = WF at RR ⊢
    clear z0 z1 z2 f0 f1 f2
    obtain ⟨k0, k1, k2⟩ := RR.out.1
    refine bodyPost_ret (v := .tuple #[.agg #[.int .i64 0, .slice none 0 0, .int .i64 0], .slice none 0 0, .slice none 0 0, .bool false]) ?hr rfl ?_
    case hr => rw [results_cttt rfl]; go_simp
    rw [HF.out]
    exact AckV.no w _ RR.out.2
  have hd := decide_eq_false hln
  by_cases ht : 0 ≤ t ∧ t ≤ 999
  case neg =>
    have CT1 := Lib.hid (CT.out false (decide_eq_false ht))
    have HF := Lib.hid (lackv_no (s := (n, l, g)) (a := r) (now := t) (delay := d) fun h => ht h.2.2.2.1)
    clear hv CV CR CL CT CD hrv ht
    go_enter Try.func23, Try.ntmps23
    go_wp2_with fail
    rw [HW1.out]
    have q0 := Up.cell A1.out.x.c0
    have q1 := Up.cell A1.out.x.c1
    have q2 := Up.cell A1.out.x.c2
    have q3 := Up.cell A1.out.a
    have q4 := Up.cell A1.out.t
    have q5 := Up.cell A1.out.d
    refine up_region W1 (Below.refl _ _) (by kernel_rfl) (by kernel_rfl) ?_
    repeat (go_big_quiet_step (first | (go_at_call 17; (with_reducible exact CV1.out _)) | (go_at_call 49; (with_reducible exact CR1.out _)) | (go_at_call 50; (with_reducible exact CL1.out _)) | (go_at_call 39; (with_reducible exact CT1.out _))))
    refine wpQuiet_nil ?_
    rintro W2 ⟨⟨W2x, hb2⟩, hw2⟩
    have hw2' : W2 = W2x := hw2
    subst hw2'
    have A2 := Lib.hid (A1.out.up hb2)
    clear q0 q1 q2 q3 q4 q5 hb2 hw2
    obtain ⟨z0, z1, z2⟩ := A2.out.z
    have f0 := A2.out.zf 0
    have f1 := A2.out.zf 1
    have f2 := A2.out.zf 2
    have RR := Lib.hid (A2.out.res (n' := 0) (g' := 0) (v' := .slice none 0 0))
    go_wp2_with fail
    unfold setA at RR
    generalize ((W2.setCell ⟨w.heap.size + 1 + 1 + 1 + 1, 0, none⟩ (.int .i64 0)).setCell ⟨w.heap.size + 1 + 1 + 1 + 1, 1, none⟩ (.slice none 0 0)).setCell ⟨w.heap.size + 1 + 1 + 1 + 1, 2, none⟩ (.int .i64 0) = WF at RR ⊢
    clear z0 z1 z2 f0 f1 f2
    obtain ⟨k0, k1, k2⟩ := RR.out.1
    refine bodyPost_ret (v := .tuple #[.agg #[.int .i64 0, .slice none 0 0, .int .i64 0], .slice none 0 0, .slice none 0 0, .bool false]) ?hr rfl ?_
    case hr => rw [results_cttt rfl]; go_simp
    rw [HF.out]
    exact AckV.no w _ RR.out.2
  have CT1 := Lib.hid (CT.out true (decide_eq_true ht))
  by_cases hdl : 1 ≤ d ∧ d ≤ 1998
  case neg =>
    have CD1 := Lib.hid (CD.out false (decide_eq_false hdl))
    have HF := Lib.hid (lackv_no (s := (n, l, g)) (a := r) (now := t) (delay := d) fun h => hdl h.2.2.2.2)
    clear hv CV CR CL CT CD hrv ht hdl
    go_enter Try.func23, Try.ntmps23
    go_wp2_with fail
    rw [HW1.out]
    have q0 := Up.cell A1.out.x.c0
    have q1 := Up.cell A1.out.x.c1
    have q2 := Up.cell A1.out.x.c2
    have q3 := Up.cell A1.out.a
    have q4 := Up.cell A1.out.t
    have q5 := Up.cell A1.out.d
    refine up_region W1 (Below.refl _ _) (by kernel_rfl) (by kernel_rfl) ?_
    repeat (go_big_quiet_step (first | (go_at_call 17; (with_reducible exact CV1.out _)) | (go_at_call 49; (with_reducible exact CR1.out _)) | (go_at_call 50; (with_reducible exact CL1.out _)) | (go_at_call 39; (with_reducible exact CT1.out _)) | (go_at_call 51; (with_reducible exact CD1.out _))))
    refine wpQuiet_nil ?_
    rintro W2 ⟨⟨W2x, hb2⟩, hw2⟩
    have hw2' : W2 = W2x := hw2
    subst hw2'
    have A2 := Lib.hid (A1.out.up hb2)
    clear q0 q1 q2 q3 q4 q5 hb2 hw2
    obtain ⟨z0, z1, z2⟩ := A2.out.z
    have f0 := A2.out.zf 0
    have f1 := A2.out.zf 1
    have f2 := A2.out.zf 2
    have RR := Lib.hid (A2.out.res (n' := 0) (g' := 0) (v' := .slice none 0 0))
    go_wp2_with fail
    unfold setA at RR
    generalize ((W2.setCell ⟨w.heap.size + 1 + 1 + 1 + 1, 0, none⟩ (.int .i64 0)).setCell ⟨w.heap.size + 1 + 1 + 1 + 1, 1, none⟩ (.slice none 0 0)).setCell ⟨w.heap.size + 1 + 1 + 1 + 1, 2, none⟩ (.int .i64 0) = WF at RR ⊢
    clear z0 z1 z2 f0 f1 f2
    obtain ⟨k0, k1, k2⟩ := RR.out.1
    refine bodyPost_ret (v := .tuple #[.agg #[.int .i64 0, .slice none 0 0, .int .i64 0], .slice none 0 0, .slice none 0 0, .bool false]) ?hr rfl ?_
    case hr => rw [results_cttt rfl]; go_simp
    rw [HF.out]
    exact AckV.no w _ RR.out.2
  have CD1 := Lib.hid (CD.out true (decide_eq_true hdl))
  have HF := Lib.hid (lackv_yes (s := (n, l, g)) (a := r) (now := t) (delay := d) ⟨hv, hrv, by rw [HLN.out]; show ln < n; omega, ht, hdl⟩)
  have h12 : l.length ≤ 12 := hv.2.2.1
  have hn2 : 0 ≤ n ∧ n ≤ 1000 := hv.1
  have hg2 : -1 ≤ g ∧ g ≤ n - 1 := hv.2.1
  have HRV := Lib.hid hrv
  have HT := Lib.hid ht
  have HDL := Lib.hid hdl
  clear hv CV CR CL CT CD hrv ht hdl
  go_enter Try.func23, Try.ntmps23
  go_wp2_with fail
  rw [HW1.out]
  have q0 := Up.cell A1.out.x.c0
  have q1 := Up.cell A1.out.x.c1
  have q2 := Up.cell A1.out.x.c2
  have q3 := Up.cell A1.out.a
  have q4 := Up.cell A1.out.t
  have q5 := Up.cell A1.out.d
  refine up_region W1 (Below.refl _ _) (by kernel_rfl) (by kernel_rfl) ?_
  repeat (go_big_quiet_step (first | (go_at_call 17; (with_reducible exact CV1.out _)) | (go_at_call 49; (with_reducible exact CR1.out _)) | (go_at_call 50; (with_reducible exact CL1.out _)) | (go_at_call 39; (with_reducible exact CT1.out _)) | (go_at_call 51; (with_reducible exact CD1.out _))))
  refine wpQuiet_nil ?_
  rintro W2 ⟨⟨W2x, hb2⟩, hw2⟩
  have hw2' : W2 = W2x := hw2
  subst hw2'
  have A2 := Lib.hid (A1.out.up hb2)
  clear q0 q1 q2 q3 q4 q5 hb2 hw2
  obtain ⟨x0, x1, x2⟩ := A2.out.x
  have xa := A2.out.a
  have xt := A2.out.t
  have xd := A2.out.d
  obtain ⟨top, htop⟩ : ∃ top, (if g < ln then ln else g) = top := ⟨_, rfl⟩
  have HTOP := Lib.hid (show topR g r = top by rw [topR_lastN r hg2.1, HLN.out, ← htop]; split <;> omega)
  go_wp2_with fail
  have AD := Lib.hid (A2.out.up (Below.refl _ _).drew)
  have AE := Lib.hid ((A2.out.up ((Below.refl _ _).alloc (Nat.le_refl _) (.cells #[.int .i64 0] 3))).up (Below.refl _ _).drew)
  have kd : W2.drew.cell? ⟨w.heap.size, 2, none⟩ = some (.int .i64 g) ∧ W2.drew.cell? ⟨w.heap.size + 1, 0, none⟩ = some (.slice ra r.length rc) := ⟨AD.out.x.c2, AD.out.a⟩
  have ke : (W2.alloc (.cells #[.int .i64 0] 3)).drew.cell? ⟨w.heap.size, 2, none⟩ = some (.int .i64 g) ∧ (W2.alloc (.cells #[.int .i64 0] 3)).drew.cell? ⟨w.heap.size + 1, 0, none⟩ = some (.slice ra r.length rc) := ⟨AE.out.x.c2, AE.out.a⟩
  have CA := Lib.hid (lastNumber_any _ r W2.drew (HR.out.below AD.out.bl) hrl)
  have CB := Lib.hid (lastNumber_any _ r (W2.alloc (.cells #[.int .i64 0] 3)).drew (HR.out.below AE.out.bl) hrl)
  rw [HLN.out] at CA CB
  go_region_held3 (fun W => W.cell? ⟨w.heap.size, 2, none⟩ = some (.int .i64 g) ∧ W.cell? ⟨w.heap.size + 1, 0, none⟩ = some (.slice ra r.length rc)) (with_reducible first | assumption | exact kd | exact ke | exact k8 | exact k9 | exact k10 | exact k11)
    ((first
      | (go_at_call 50; (with_reducible refine CA.out.mono ?_); rintro e w8 ⟨rfl, hw8⟩; have k8 : w8.cell? ⟨w.heap.size, 2, none⟩ = some (.int .i64 g) ∧ w8.cell? ⟨w.heap.size + 1, 0, none⟩ = some (.slice ra r.length rc) := (by rw [← hw8]; exact kd); have k9 : (w8.alloc (.cells #[.int .i64 0] 3)).cell? ⟨w.heap.size, 2, none⟩ = some (.int .i64 g) ∧ (w8.alloc (.cells #[.int .i64 0] 3)).cell? ⟨w.heap.size + 1, 0, none⟩ = some (.slice ra r.length rc) := (by rw [← hw8]; exact ⟨(AD.out.up ((Below.refl _ _).alloc (Nat.le_refl _) _)).x.c2, (AD.out.up ((Below.refl _ _).alloc (Nat.le_refl _) _)).a⟩); have k10 : (w8.alloc (.cells #[.int .i64 top] 3)).cell? ⟨w.heap.size, 2, none⟩ = some (.int .i64 g) ∧ (w8.alloc (.cells #[.int .i64 top] 3)).cell? ⟨w.heap.size + 1, 0, none⟩ = some (.slice ra r.length rc) := (by rw [← hw8]; exact ⟨(AD.out.up ((Below.refl _ _).alloc (Nat.le_refl _) _)).x.c2, (AD.out.up ((Below.refl _ _).alloc (Nat.le_refl _) _)).a⟩); have HB8 : Hid (LtAt w W2 (w8.alloc (.cells #[.int .i64 top] 3)) n g t d (.slice a l.length c) (.slice ra r.length rc) top) := Lib.hid (by rw [← hw8]; exact LtAt.a A2.out top))
      | (go_at_call 50; (with_reducible refine CB.out.mono ?_); rintro e w8 ⟨rfl, hw8⟩; have k8 : w8.cell? ⟨w.heap.size, 2, none⟩ = some (.int .i64 g) ∧ w8.cell? ⟨w.heap.size + 1, 0, none⟩ = some (.slice ra r.length rc) := (by rw [← hw8]; exact ke); have y0 : w8.cell? ⟨W2.heap.size, 0, none⟩ = some (.int .i64 0) := (by rw [← hw8]; exact one_new W2 _ _); have y1 : w8.frozen? ⟨W2.heap.size, 0, none⟩ = false := (by rw [← hw8]; exact Soft.new W2 _ _ 0); have HB8 : Hid (LtAt w W2 (w8.setCell ⟨W2.heap.size, 0, none⟩ (.int .i64 top)) n g t d (.slice a l.length c) (.slice ra r.length rc) top) := Lib.hid (by rw [← hw8]; exact LtAt.b A2.out top); have k11 : (w8.setCell ⟨W2.heap.size, 0, none⟩ (.int .i64 top)).cell? ⟨w.heap.size, 2, none⟩ = some (.int .i64 g) ∧ (w8.setCell ⟨W2.heap.size, 0, none⟩ (.int .i64 top)).cell? ⟨w.heap.size + 1, 0, none⟩ = some (.slice ra r.length rc) := ⟨HB8.out.la.x.c2, HB8.out.la.a⟩)))
  all_goals
    first
      | (rw [show w8.heap.size = W2.heap.size by rw [← hw8]; rfl]; generalize w8.alloc (.cells #[.int .i64 top] 3) = W3 at HB8 ⊢)
      | (generalize w8.setCell ⟨W2.heap.size, 0, none⟩ (.int .i64 top) = W3 at HB8 ⊢)
    try clear k10
    try clear k11
    try clear k9
    try clear y0
    try clear y1
    clear k8 kd ke x0 x1 x2 xa xt xd hw8
    obtain ⟨x0, x1, x2⟩ := HB8.out.la.x
    have CF := Lib.hid (flightOf_any _ l W3 (HS.out.below HB8.out.la.bl) hl)
    go_wp2_with fail
    refine CF.out.mono ?_
    rintro e w4 ⟨f, cs, rfl, hf4, hb4⟩
    have L4 := Lib.hid (HB8.out.below hb4 HB8.out.lt.2)
    have F4 := Lib.hid hf4
    have SZ4 := Lib.hid hb4.size
    have HP := Lib.hid HB8.out.lt
    have KA : Hid (∀ (W : World), Below W3.heap.size w4 W → ∀ p1 p2 p3 : Int, (p1, p2, p3) ∈ l → Calls Try.prog 53 #[.agg #[.int .i64 p1, .int .i64 p2, .int .i64 p3], .pointer (some ⟨w.heap.size + 1, 0, none⟩)] W fun e w' => e = .returned (.bool ((fun p : Pk => hasR r p.1) (p1, p2, p3))) ∧ Below W.heap.size W w') := Lib.hid fun W hb p1 p2 p3 _ => by
      have L := L4.out.below hb HP.out.2
      exact lit1_any _ _ r p1 p2 p3 W L.la.a (HR.out.below L.la.bl) HRV.out hrl
    have RA := Lib.hid (fremA_any (fun p => hasR r p.1) W3.heap.size f (w.heap.size + 1) cs l w4 F4.out hl SZ4.out KA.out)
    clear hf4 hb4 x0 x1 x2
    go_wp2_with fail
    refine RA.out.mono ?_
    rintro e w5 ⟨v1, cs5, rfl, ho5, hf5, hb5, ⟨q1, hq1⟩, hs5, hx5⟩
    obtain ⟨l5, hl5⟩ : ∃ x, (l.filter fun p => !hasR r p.1) = x := ⟨_, rfl⟩
    rw [hl5] at hf5
    have HL5 := Lib.hid hl5
    have hll : l5.length ≤ 1048576 := by rw [← hl5]; exact Nat.le_trans (List.length_filter_le _ _) hl
    have L5 := Lib.hid (L4.out.below hb5 HP.out.2)
    have F5 := Lib.hid hf5
    have O5 := Lib.hid ho5
    have HQ1 := Lib.hid hq1
    have HS5 := Lib.hid hs5
    have SZ5 := Lib.hid (Nat.le_trans SZ4.out hb5.size)
    have KB : Hid (∀ (W : World), Below W3.heap.size w5 W → ∀ p1 p2 p3 : Int, (p1, p2, p3) ∈ l5 → Calls Try.prog 55 #[.agg #[.int .i64 p1, .int .i64 p2, .int .i64 p3], .pointer (some ⟨W2.heap.size, 0, none⟩), .pointer (some ⟨w.heap.size + 1 + 1, 0, none⟩), .pointer (some ⟨w.heap.size + 1 + 1 + 1, 0, none⟩)] W fun e w' => e = .returned (.bool (isLost top t d (p1, p2, p3))) ∧ Below W.heap.size W w') := Lib.hid fun W hb p1 p2 p3 _ => by
      have L := L5.out.below hb HP.out.2
      have hT := HT.out
      have hD := HDL.out
      refine lit2_any _ _ _ p1 p2 p3 top t d W L.tp L.la.t L.la.d ?_ ?_ ?_
      · rw [← htop]; have := hn2; have := hg2; split <;> omega
      · omega
      · omega
    have RB := Lib.hid (fremB_any (fun p => isLost top t d p) W3.heap.size f W2.heap.size (w.heap.size + 1 + 1) (w.heap.size + 1 + 1 + 1) cs5 l5 w5 F5.out hll SZ5.out KB.out)
    clear hl5 hf5 ho5 hb5 hq1 hs5 hx5
    go_wp2_with fail
    refine RB.out.mono ?_
    rintro e w6 ⟨v2, cs6, rfl, ho6, hf6, hb6, ⟨q2, hq2⟩, hs6, hx6⟩
    obtain ⟨l6, hl6⟩ : ∃ x, (l5.filter fun p => !isLost top t d p) = x := ⟨_, rfl⟩
    rw [hl6] at hf6
    have HL6 := Lib.hid hl6
    have hll6 : l6.length ≤ 1048576 := by rw [← hl6]; exact Nat.le_trans (List.length_filter_le _ _) hll
    have L6 := Lib.hid (L5.out.below hb6 HP.out.2)
    have F6 := Lib.hid hf6
    have O6 := Lib.hid ho6
    have HQ2 := Lib.hid hq2
    have N1 : Hid (OwnI w6 w4.heap.size v1 ((l.filter fun p => hasR r p.1).map (·.1))) := Lib.hid (by
      refine own_keep O5.out fun q hq => hx6 q (World.ownsRow.lt O5.out q hq).2 fun hF => ?_
      have h1 := (F4.out.flt (HS5.out q hF)).1
      have h2 := (World.ownsRow.lt O5.out q hq).1
      omega)
    have QQ : Hid (w4.heap.size ≤ q1 ∧ q1 < w5.heap.size ∧ w5.heap.size ≤ q2 ∧ q2 < w6.heap.size) := Lib.hid ⟨(World.ownsRow.lt O5.out q1 HQ1.out).1, (World.ownsRow.lt O5.out q1 HQ1.out).2, (World.ownsRow.lt O6.out q2 HQ2.out).1, (World.ownsRow.lt O6.out q2 HQ2.out).2⟩
    clear hl6 hf6 ho6 hb6 hq2 hs6 hx6
    obtain ⟨x0, x1, x2⟩ := L6.out.la.x
    have xt := L6.out.tp
    go_wp2_with fail
    have LD := Lib.hid (L6.out.below (Below.refl w6.heap.size w6).drew L6.out.lt.2)
    have kd : w6.drew.cell? ⟨w.heap.size, 0, none⟩ = some (.int .i64 n) ∧ w6.drew.cell? ⟨W2.heap.size, 0, none⟩ = some (.int .i64 top) := ⟨LD.out.la.x.c0, LD.out.tp⟩
    have CP := Lib.hid (fpackets_any _ f _ l6 w6.drew (F6.out.below (Below.refl _ _).drew) hll6)
    have LT4 := Lib.hid (show w.heap.size + 1 + 1 + 1 + 1 < W2.heap.size from L6.out.lt.1)
    go_region_held3 (fun W => W.cell? ⟨w.heap.size, 0, none⟩ = some (.int .i64 n) ∧ W.cell? ⟨W2.heap.size, 0, none⟩ = some (.int .i64 top)) (with_reducible first | assumption | exact kd | exact k8 | exact k9)
      ((go_at_call 44; (with_reducible refine CP.out.mono ?_); rintro e w8 ⟨v8, rfl, hO8, hb8⟩; obtain ⟨a8, c8, rfl⟩ := ownsRow_shape hO8; have A8 := Lib.hid (LD.out.below hb8 LD.out.lt.2); have HO8 := Lib.hid hO8; have HB8 := Lib.hid hb8; have k8 : w8.cell? ⟨w.heap.size, 0, none⟩ = some (.int .i64 n) ∧ w8.cell? ⟨W2.heap.size, 0, none⟩ = some (.int .i64 top) := ⟨A8.out.la.x.c0, A8.out.tp⟩; have xA := A8.out.la.x.c0; have xB := A8.out.tp; have z0 := A8.out.la.z.c0; have z1 := A8.out.la.z.c1; have z2 := A8.out.la.z.c2; have f0 := A8.out.la.zf 0; have f1 := A8.out.la.zf 1; have f2 := A8.out.la.zf 2; have k9 : (setA w w8 n top (.slice a8 l6.length c8)).cell? ⟨w.heap.size, 0, none⟩ = some (.int .i64 n) ∧ (setA w w8 n top (.slice a8 l6.length c8)).cell? ⟨W2.heap.size, 0, none⟩ = some (.int .i64 top) := A8.out.setA; clear hO8 hb8))
    have RR := Lib.hid (A8.out.la.res (n' := n) (g' := top) (v' := .slice a8 l6.length c8))
    have B68 := Lib.hid (show Below w6.heap.size w6 w8 from (Below.refl w6.heap.size w6).drew.trans HB8.out)
    have SS := Lib.hid (show w.heap.size + 1 + 1 + 1 + 1 < w4.heap.size ∧ w4.heap.size ≤ w5.heap.size ∧ w5.heap.size ≤ w6.heap.size from ⟨by have := LT4.out; have := HP.out.2; have := SZ4.out; omega, by have := QQ.out; omega, by have := QQ.out; omega⟩)
    have E1 : Hid (OwnPk (setA w w8 n top (.slice a8 l6.length c8)) w.heap.size (.slice a8 l6.length c8) l6) := Lib.hid (OwnPk.lower (own_setA (w := w) (n' := n) (g' := top) (v' := .slice a8 l6.length c8) HO8.out (by have := SS.out; simp; omega)) (by have := SS.out; simp; omega))
    have E2 : Hid (OwnI (setA w w8 n top (.slice a8 l6.length c8)) w.heap.size v1 ((l.filter fun p => hasR r p.1).map (·.1))) := Lib.hid (OwnI.base (own_setA (w := w) (n' := n) (g' := top) (v' := .slice a8 l6.length c8) (N1.out.below B68.out) (by have := SS.out; omega)) (by have := SS.out; omega))
    have E3 : Hid (OwnI (setA w w8 n top (.slice a8 l6.length c8)) w.heap.size v2 ((l5.filter fun p => isLost top t d p).map (·.1))) := Lib.hid (OwnI.base (own_setA (w := w) (n' := n) (g' := top) (v' := .slice a8 l6.length c8) (O6.out.below B68.out) (by have := SS.out; omega)) (by have := SS.out; omega))
    have EA : Hid (Apart3 (.slice a8 l6.length c8) v1 v2) := Lib.hid fun q => by
      have hq8 : (Value.slice a8 l6.length c8).ownBlock = some q → w6.heap.size ≤ q := fun e => (World.ownsRow.lt HO8.out q e).1
      have := QQ.out
      refine ⟨fun e => ⟨fun e1 => ?_, fun e2 => ?_⟩, fun e1 e2 => ?_⟩
      · have h8 := hq8 e; rw [HQ1.out] at e1; have := Option.some.inj e1; omega
      · have h8 := hq8 e; rw [HQ2.out] at e2; have := Option.some.inj e2; omega
      · rw [HQ1.out] at e1; rw [HQ2.out] at e2; have h1 := Option.some.inj e1; have h2 := Option.some.inj e2; omega
    unfold setA at RR E1 E2 E3
    generalize ((w8.setCell ⟨w.heap.size + 1 + 1 + 1 + 1, 0, none⟩ (.int .i64 n)).setCell ⟨w.heap.size + 1 + 1 + 1 + 1, 1, none⟩ (.slice a8 l6.length c8)).setCell ⟨w.heap.size + 1 + 1 + 1 + 1, 2, none⟩ (.int .i64 top) = WF at RR E1 E2 E3 ⊢
    clear k8 k9 kd xA xB z0 z1 z2 f0 f1 f2 x0 x1 x2 xt
    obtain ⟨k0, k1, k2⟩ := RR.out.1
    go_wp2_with fail
    refine bodyPost_ret (v := .tuple #[.agg #[.int .i64 n, .slice a8 l6.length c8, .int .i64 top], v1, v2, .bool true]) ?hr rfl ?_
    case hr => rw [results_cttt rfl]; go_simp
    have hl5 := HL5.out
    have hl6 := HL6.out
    have htp := HTOP.out
    rw [HF.out, lack_twice]
    simp only [htp, hl5, hl6]
    exact ⟨_, _, _, rfl, E1.out, E2.out, E3.out, RR.out.2, EA.out⟩

end Go.Proofs.Ytccolpaenmebeaa
