/- Chapter 4, the model's FrameValid. -/
import Derived.Test.YtifohfclgonhfaaSFr
namespace Go.Proofs.Ytifohfclgonhfaa
open Go.RowKit
set_option linter.unusedVariables false
set_option linter.unusedSimpArgs false

theorem bnt {a b : Int} (h : a ≠ b) : (a != b) = true := bne_iff_ne.2 h
set_option maxRecDepth 100000 in
set_option maxHeartbeats 1000000 in
theorem sval_c (k a b c : Int) (d : ByteArray) (rs : List (Int × Int)) (ra : Option Addr) (rc : Nat) (w : World) (HR : Hid (Rngs w (.slice ra rs.length rc) rs)) (hl : rs.length ≤ 1048576) (hd : d.size ≤ 2097152) (n : Nat) (HN : Hid (fnum k = n)) (hn : n < 3) (hc : c ≠ 0) (HF : Hid (fok ⟨k, a, b, c, d, rs⟩ = (false))) :
    Calls Try.prog 24 #[frV ⟨k, a, b, c, d, rs⟩ (.slice ra rs.length rc)] w (BoolPost w (fok ⟨k, a, b, c, d, rs⟩)) := by
  unfold frV
  have t3 : (n : Int) < 3 := by omega
  have ec := bne_of hc
  have mc := bnt hc
  go_enter Try.func24, Try.ntmps24
  go_wp2_with fail
  refine (snum_any _ _).mono ?_
  rw [HN.out]
  rintro e w' ⟨rfl, rfl⟩
  go_wp2_with fail
  go_ret
  exact BoolPost.of HF.out.symm ((Below.refl _ _).alloc (Nat.le_refl _) _)

set_option maxRecDepth 100000 in
set_option maxHeartbeats 1000000 in
theorem sval_b (k a b c : Int) (d : ByteArray) (rs : List (Int × Int)) (ra : Option Addr) (rc : Nat) (w : World) (HR : Hid (Rngs w (.slice ra rs.length rc) rs)) (hl : rs.length ≤ 1048576) (hd : d.size ≤ 2097152) (n : Nat) (HN : Hid (fnum k = n)) (hn : n < 2) (hc : c = 0) (hb : b ≠ 0) (HF : Hid (fok ⟨k, a, b, c, d, rs⟩ = (false))) :
    Calls Try.prog 24 #[frV ⟨k, a, b, c, d, rs⟩ (.slice ra rs.length rc)] w (BoolPost w (fok ⟨k, a, b, c, d, rs⟩)) := by
  unfold frV
  have t3 : (n : Int) < 3 := by omega
  have t2 : (n : Int) < 2 := by omega
  subst hc
  have eb := bne_of hb
  have mb := bnt hb
  go_enter Try.func24, Try.ntmps24
  go_wp2_with fail
  refine (snum_any _ _).mono ?_
  rw [HN.out]
  rintro e w' ⟨rfl, rfl⟩
  go_wp2_with fail
  go_ret
  exact BoolPost.of HF.out.symm ((Below.refl _ _).alloc (Nat.le_refl _) _)

set_option maxRecDepth 100000 in
set_option maxHeartbeats 1000000 in
theorem sval_a (k a b c : Int) (d : ByteArray) (rs : List (Int × Int)) (ra : Option Addr) (rc : Nat) (w : World) (HR : Hid (Rngs w (.slice ra rs.length rc) rs)) (hl : rs.length ≤ 1048576) (hd : d.size ≤ 2097152) (n : Nat) (HN : Hid (fnum k = n)) (hn : n < 1) (hc : c = 0) (hb : b = 0) (ha : a ≠ 0) (HF : Hid (fok ⟨k, a, b, c, d, rs⟩ = (false))) :
    Calls Try.prog 24 #[frV ⟨k, a, b, c, d, rs⟩ (.slice ra rs.length rc)] w (BoolPost w (fok ⟨k, a, b, c, d, rs⟩)) := by
  unfold frV
  have t3 : (n : Int) < 3 := by omega
  have t2 : (n : Int) < 2 := by omega
  have t1 : (n : Int) < 1 := by omega
  subst hc hb
  have ea := bne_of ha
  have ma := bnt ha
  go_enter Try.func24, Try.ntmps24
  go_wp2_with fail
  refine (snum_any _ _).mono ?_
  rw [HN.out]
  rintro e w' ⟨rfl, rfl⟩
  go_wp2_with fail
  go_ret
  exact BoolPost.of HF.out.symm ((Below.refl _ _).alloc (Nat.le_refl _) _)

set_option maxRecDepth 100000 in
set_option maxHeartbeats 1000000 in
theorem sval_r0 (k a b c : Int) (d : ByteArray) (rs : List (Int × Int)) (ra : Option Addr) (rc : Nat) (w : World) (HR : Hid (Rngs w (.slice ra rs.length rc) rs)) (hl : rs.length ≤ 1048576) (hd : d.size ≤ 2097152) (n : Nat) (HN : Hid (fnum k = n)) (hn : n = 0) (hc : c = 0) (hb : b = 0) (ha : a = 0) (h2 : k ≠ 2) (hp : 0 < rs.length) (HF : Hid (fok ⟨k, a, b, c, d, rs⟩ = (false))) :
    Calls Try.prog 24 #[frV ⟨k, a, b, c, d, rs⟩ (.slice ra rs.length rc)] w (BoolPost w (fok ⟨k, a, b, c, d, rs⟩)) := by
  unfold frV
  subst hn hc hb ha
  have k2 := bne_of h2
  have m2 := bnt h2
  have hp' : (0 : Int) < (rs.length : Int) := by omega
  go_enter Try.func24, Try.ntmps24
  go_wp2_with fail
  refine (snum_any _ _).mono ?_
  rw [HN.out]
  rintro e w' ⟨rfl, rfl⟩
  go_wp2_with fail
  go_ret
  exact BoolPost.of HF.out.symm ((Below.refl _ _).alloc (Nat.le_refl _) _)

set_option maxRecDepth 100000 in
set_option maxHeartbeats 1000000 in
theorem sval_9 (k a b c : Int) (d : ByteArray) (rs : List (Int × Int)) (ra : Option Addr) (rc : Nat) (w : World) (HR : Hid (Rngs w (.slice ra rs.length rc) rs)) (hl : rs.length ≤ 1048576) (hd : d.size ≤ 2097152) (n : Nat) (HN : Hid (fnum 9 = n)) (hn : n = 0) (hc : c = 0) (hb : b = 0) (ha : a = 0) (hp : ¬ 0 < rs.length) (HF : Hid (fok ⟨9, a, b, c, d, rs⟩ = (ffld ⟨9, a, b, c, d, rs⟩ && decide (d.size ≤ 12)))) :
    Calls Try.prog 24 #[frV ⟨9, a, b, c, d, rs⟩ (.slice ra rs.length rc)] w (BoolPost w (fok ⟨9, a, b, c, d, rs⟩)) := by
  unfold frV
  subst hn hc hb ha
  have hp' : ¬ (0 : Int) < (rs.length : Int) := by omega
  go_enter Try.func24, Try.ntmps24
  go_wp2_with fail
  refine (snum_any _ _).mono ?_
  rw [HN.out]
  rintro e w' ⟨rfl, rfl⟩
  go_wp2_with fail
  refine (sfld_any ⟨9, 0, 0, 0, d, rs⟩ _ _ (HR.out.below ((Below.refl _ _).alloc (Nat.le_refl _) _)) hl hd).mono ?_
  rintro e w' ⟨rfl, hb⟩
  have HB := Lib.hid (((Below.refl w.heap.size w).alloc (Nat.le_refl _) _).trans (hb.mono (by simp)))
  have c4 : w'.cell? ⟨w.heap.size, 4, none⟩ = some (.string d) := (hb.cell (by simp)).trans (by rw [World.cell?_alloc_mark]; rfl)
  clear hb
  obtain ⟨q, hq⟩ : ∃ q, ffld ⟨9, 0, 0, 0, d, rs⟩ = q := ⟨_, rfl⟩
  rw [hq]
  have HQ := Lib.hid hq
  clear hq
  cases q
  · go_wp2_with fail
    go_ret
    exact BoolPost.of (by rw [HF.out, HQ.out]; rfl) HB.out
  · go_wp2_with fail
    go_ret
    exact BoolPost.of (by rw [HF.out, HQ.out, Bool.true_and]; first | (rw [decide_eq_decide]; omega) | exact (decide_eq_true (by omega)).symm) HB.out

set_option maxRecDepth 100000 in
set_option maxHeartbeats 1000000 in
theorem sval_d0 (k a b c : Int) (d : ByteArray) (rs : List (Int × Int)) (ra : Option Addr) (rc : Nat) (w : World) (HR : Hid (Rngs w (.slice ra rs.length rc) rs)) (hl : rs.length ≤ 1048576) (hd : d.size ≤ 2097152) (n : Nat) (HN : Hid (fnum k = n)) (hn : n = 0) (hc : c = 0) (hb : b = 0) (ha : a = 0) (h2 : k ≠ 2) (h3 : k ≠ 3) (h9 : k ≠ 9) (hp : ¬ 0 < rs.length) (hs : 0 < d.size) (HF : Hid (fok ⟨k, a, b, c, d, rs⟩ = (false))) :
    Calls Try.prog 24 #[frV ⟨k, a, b, c, d, rs⟩ (.slice ra rs.length rc)] w (BoolPost w (fok ⟨k, a, b, c, d, rs⟩)) := by
  unfold frV
  subst hn hc hb ha
  have k2 := bne_of h2
  have k3 := bne_of h3
  have k9 := bne_of h9
  have m2 := bnt h2
  have m3 := bnt h3
  have m9 := bnt h9
  have hp' : ¬ (0 : Int) < (rs.length : Int) := by omega
  have he := isEmpty_of_pos (s := d) (by omega)
  go_enter Try.func24, Try.ntmps24
  go_wp2_with fail
  refine (snum_any _ _).mono ?_
  rw [HN.out]
  rintro e w' ⟨rfl, rfl⟩
  go_wp2_with fail
  go_ret
  exact BoolPost.of HF.out.symm ((Below.refl _ _).alloc (Nat.le_refl _) _)

set_option maxRecDepth 100000 in
set_option maxHeartbeats 1000000 in
theorem sval_p0 (k a b c : Int) (d : ByteArray) (rs : List (Int × Int)) (ra : Option Addr) (rc : Nat) (w : World) (HR : Hid (Rngs w (.slice ra rs.length rc) rs)) (hl : rs.length ≤ 1048576) (hd : d.size ≤ 2097152) (n : Nat) (HN : Hid (fnum k = n)) (hn : n = 0) (hc : c = 0) (hb : b = 0) (ha : a = 0) (h2 : k ≠ 2) (h3 : k ≠ 3) (h9 : k ≠ 9) (hp : ¬ 0 < rs.length) (hs : d.size = 0) (HF : Hid (fok ⟨k, a, b, c, d, rs⟩ = (ffld ⟨k, a, b, c, d, rs⟩ && decide (d.size ≤ 12)))) :
    Calls Try.prog 24 #[frV ⟨k, a, b, c, d, rs⟩ (.slice ra rs.length rc)] w (BoolPost w (fok ⟨k, a, b, c, d, rs⟩)) := by
  unfold frV
  subst hn hc hb ha
  have k2 := bne_of h2
  have k3 := bne_of h3
  have k9 := bne_of h9
  have m2 := bnt h2
  have m3 := bnt h3
  have m9 := bnt h9
  have hp' : ¬ (0 : Int) < (rs.length : Int) := by omega
  have he := isEmpty_of_zero hs
  go_enter Try.func24, Try.ntmps24
  go_wp2_with fail
  refine (snum_any _ _).mono ?_
  rw [HN.out]
  rintro e w' ⟨rfl, rfl⟩
  go_wp2_with fail
  refine (sfld_any ⟨k, 0, 0, 0, d, rs⟩ _ _ (HR.out.below ((Below.refl _ _).alloc (Nat.le_refl _) _)) hl hd).mono ?_
  rintro e w' ⟨rfl, hb⟩
  have HB := Lib.hid (((Below.refl w.heap.size w).alloc (Nat.le_refl _) _).trans (hb.mono (by simp)))
  have c4 : w'.cell? ⟨w.heap.size, 4, none⟩ = some (.string d) := (hb.cell (by simp)).trans (by rw [World.cell?_alloc_mark]; rfl)
  clear hb
  obtain ⟨q, hq⟩ : ∃ q, ffld ⟨k, 0, 0, 0, d, rs⟩ = q := ⟨_, rfl⟩
  rw [hq]
  have HQ := Lib.hid hq
  clear hq
  cases q
  · go_wp2_with fail
    go_ret
    exact BoolPost.of (by rw [HF.out, HQ.out]; rfl) HB.out
  · go_wp2_with fail
    go_ret
    exact BoolPost.of (by rw [HF.out, HQ.out, Bool.true_and]; first | (rw [decide_eq_decide]; omega) | exact (decide_eq_true (by omega)).symm) HB.out

set_option maxRecDepth 100000 in
set_option maxHeartbeats 1000000 in
theorem sval_r1 (k a b c : Int) (d : ByteArray) (rs : List (Int × Int)) (ra : Option Addr) (rc : Nat) (w : World) (HR : Hid (Rngs w (.slice ra rs.length rc) rs)) (hl : rs.length ≤ 1048576) (hd : d.size ≤ 2097152) (n : Nat) (HN : Hid (fnum k = n)) (hn : n = 1) (hc : c = 0) (hb : b = 0) (h2 : k ≠ 2) (hp : 0 < rs.length) (HF : Hid (fok ⟨k, a, b, c, d, rs⟩ = (false))) :
    Calls Try.prog 24 #[frV ⟨k, a, b, c, d, rs⟩ (.slice ra rs.length rc)] w (BoolPost w (fok ⟨k, a, b, c, d, rs⟩)) := by
  unfold frV
  subst hn hc hb
  have k2 := bne_of h2
  have m2 := bnt h2
  have hp' : (0 : Int) < (rs.length : Int) := by omega
  go_enter Try.func24, Try.ntmps24
  go_wp2_with fail
  refine (snum_any _ _).mono ?_
  rw [HN.out]
  rintro e w' ⟨rfl, rfl⟩
  go_wp2_with fail
  go_ret
  exact BoolPost.of HF.out.symm ((Below.refl _ _).alloc (Nat.le_refl _) _)

set_option maxRecDepth 100000 in
set_option maxHeartbeats 1000000 in
theorem sval_2d (k a b c : Int) (d : ByteArray) (rs : List (Int × Int)) (ra : Option Addr) (rc : Nat) (w : World) (HR : Hid (Rngs w (.slice ra rs.length rc) rs)) (hl : rs.length ≤ 1048576) (hd : d.size ≤ 2097152) (n : Nat) (HN : Hid (fnum 2 = n)) (hn : n = 1) (hc : c = 0) (hb : b = 0) (hs : 0 < d.size) (HF : Hid (fok ⟨2, a, b, c, d, rs⟩ = (false))) :
    Calls Try.prog 24 #[frV ⟨2, a, b, c, d, rs⟩ (.slice ra rs.length rc)] w (BoolPost w (fok ⟨2, a, b, c, d, rs⟩)) := by
  unfold frV
  subst hn hc hb
  have he := isEmpty_of_pos (s := d) (by omega)
  go_enter Try.func24, Try.ntmps24
  go_wp2_with fail
  refine (snum_any _ _).mono ?_
  rw [HN.out]
  rintro e w' ⟨rfl, rfl⟩
  go_wp2_with fail
  go_ret
  exact BoolPost.of HF.out.symm ((Below.refl _ _).alloc (Nat.le_refl _) _)

set_option maxRecDepth 100000 in
set_option maxHeartbeats 1000000 in
theorem sval_2 (k a b c : Int) (d : ByteArray) (rs : List (Int × Int)) (ra : Option Addr) (rc : Nat) (w : World) (HR : Hid (Rngs w (.slice ra rs.length rc) rs)) (hl : rs.length ≤ 1048576) (hd : d.size ≤ 2097152) (n : Nat) (HN : Hid (fnum 2 = n)) (hn : n = 1) (hc : c = 0) (hb : b = 0) (hs : d.size = 0) (HF : Hid (fok ⟨2, a, b, c, d, rs⟩ = (ffld ⟨2, a, b, c, d, rs⟩ && decide (d.size ≤ 12)))) :
    Calls Try.prog 24 #[frV ⟨2, a, b, c, d, rs⟩ (.slice ra rs.length rc)] w (BoolPost w (fok ⟨2, a, b, c, d, rs⟩)) := by
  unfold frV
  subst hn hc hb
  have he := isEmpty_of_zero hs
  go_enter Try.func24, Try.ntmps24
  go_wp2_with fail
  refine (snum_any _ _).mono ?_
  rw [HN.out]
  rintro e w' ⟨rfl, rfl⟩
  go_wp2_with fail
  refine (sfld_any ⟨2, a, 0, 0, d, rs⟩ _ _ (HR.out.below ((Below.refl _ _).alloc (Nat.le_refl _) _)) hl hd).mono ?_
  rintro e w' ⟨rfl, hb⟩
  have HB := Lib.hid (((Below.refl w.heap.size w).alloc (Nat.le_refl _) _).trans (hb.mono (by simp)))
  have c4 : w'.cell? ⟨w.heap.size, 4, none⟩ = some (.string d) := (hb.cell (by simp)).trans (by rw [World.cell?_alloc_mark]; rfl)
  clear hb
  obtain ⟨q, hq⟩ : ∃ q, ffld ⟨2, a, 0, 0, d, rs⟩ = q := ⟨_, rfl⟩
  rw [hq]
  have HQ := Lib.hid hq
  clear hq
  cases q
  · go_wp2_with fail
    go_ret
    exact BoolPost.of (by rw [HF.out, HQ.out]; rfl) HB.out
  · go_wp2_with fail
    go_ret
    exact BoolPost.of (by rw [HF.out, HQ.out, Bool.true_and]; first | (rw [decide_eq_decide]; omega) | exact (decide_eq_true (by omega)).symm) HB.out

set_option maxRecDepth 100000 in
set_option maxHeartbeats 1000000 in
theorem sval_d1 (k a b c : Int) (d : ByteArray) (rs : List (Int × Int)) (ra : Option Addr) (rc : Nat) (w : World) (HR : Hid (Rngs w (.slice ra rs.length rc) rs)) (hl : rs.length ≤ 1048576) (hd : d.size ≤ 2097152) (n : Nat) (HN : Hid (fnum k = n)) (hn : n = 1) (hc : c = 0) (hb : b = 0) (h2 : k ≠ 2) (h3 : k ≠ 3) (h9 : k ≠ 9) (hp : ¬ 0 < rs.length) (hs : 0 < d.size) (HF : Hid (fok ⟨k, a, b, c, d, rs⟩ = (false))) :
    Calls Try.prog 24 #[frV ⟨k, a, b, c, d, rs⟩ (.slice ra rs.length rc)] w (BoolPost w (fok ⟨k, a, b, c, d, rs⟩)) := by
  unfold frV
  subst hn hc hb
  have k2 := bne_of h2
  have k3 := bne_of h3
  have k9 := bne_of h9
  have m2 := bnt h2
  have m3 := bnt h3
  have m9 := bnt h9
  have hp' : ¬ (0 : Int) < (rs.length : Int) := by omega
  have he := isEmpty_of_pos (s := d) (by omega)
  go_enter Try.func24, Try.ntmps24
  go_wp2_with fail
  refine (snum_any _ _).mono ?_
  rw [HN.out]
  rintro e w' ⟨rfl, rfl⟩
  go_wp2_with fail
  go_ret
  exact BoolPost.of HF.out.symm ((Below.refl _ _).alloc (Nat.le_refl _) _)

set_option maxRecDepth 100000 in
set_option maxHeartbeats 1000000 in
theorem sval_p1 (k a b c : Int) (d : ByteArray) (rs : List (Int × Int)) (ra : Option Addr) (rc : Nat) (w : World) (HR : Hid (Rngs w (.slice ra rs.length rc) rs)) (hl : rs.length ≤ 1048576) (hd : d.size ≤ 2097152) (n : Nat) (HN : Hid (fnum k = n)) (hn : n = 1) (hc : c = 0) (hb : b = 0) (h2 : k ≠ 2) (h3 : k ≠ 3) (h9 : k ≠ 9) (hp : ¬ 0 < rs.length) (hs : d.size = 0) (HF : Hid (fok ⟨k, a, b, c, d, rs⟩ = (ffld ⟨k, a, b, c, d, rs⟩ && decide (d.size ≤ 12)))) :
    Calls Try.prog 24 #[frV ⟨k, a, b, c, d, rs⟩ (.slice ra rs.length rc)] w (BoolPost w (fok ⟨k, a, b, c, d, rs⟩)) := by
  unfold frV
  subst hn hc hb
  have k2 := bne_of h2
  have k3 := bne_of h3
  have k9 := bne_of h9
  have m2 := bnt h2
  have m3 := bnt h3
  have m9 := bnt h9
  have hp' : ¬ (0 : Int) < (rs.length : Int) := by omega
  have he := isEmpty_of_zero hs
  go_enter Try.func24, Try.ntmps24
  go_wp2_with fail
  refine (snum_any _ _).mono ?_
  rw [HN.out]
  rintro e w' ⟨rfl, rfl⟩
  go_wp2_with fail
  refine (sfld_any ⟨k, a, 0, 0, d, rs⟩ _ _ (HR.out.below ((Below.refl _ _).alloc (Nat.le_refl _) _)) hl hd).mono ?_
  rintro e w' ⟨rfl, hb⟩
  have HB := Lib.hid (((Below.refl w.heap.size w).alloc (Nat.le_refl _) _).trans (hb.mono (by simp)))
  have c4 : w'.cell? ⟨w.heap.size, 4, none⟩ = some (.string d) := (hb.cell (by simp)).trans (by rw [World.cell?_alloc_mark]; rfl)
  clear hb
  obtain ⟨q, hq⟩ : ∃ q, ffld ⟨k, a, 0, 0, d, rs⟩ = q := ⟨_, rfl⟩
  rw [hq]
  have HQ := Lib.hid hq
  clear hq
  cases q
  · go_wp2_with fail
    go_ret
    exact BoolPost.of (by rw [HF.out, HQ.out]; rfl) HB.out
  · go_wp2_with fail
    go_ret
    exact BoolPost.of (by rw [HF.out, HQ.out, Bool.true_and]; first | (rw [decide_eq_decide]; omega) | exact (decide_eq_true (by omega)).symm) HB.out

set_option maxRecDepth 100000 in
set_option maxHeartbeats 1000000 in
theorem sval_r2 (k a b c : Int) (d : ByteArray) (rs : List (Int × Int)) (ra : Option Addr) (rc : Nat) (w : World) (HR : Hid (Rngs w (.slice ra rs.length rc) rs)) (hl : rs.length ≤ 1048576) (hd : d.size ≤ 2097152) (n : Nat) (HN : Hid (fnum k = n)) (hn : n = 2) (hc : c = 0) (h2 : k ≠ 2) (hp : 0 < rs.length) (HF : Hid (fok ⟨k, a, b, c, d, rs⟩ = (false))) :
    Calls Try.prog 24 #[frV ⟨k, a, b, c, d, rs⟩ (.slice ra rs.length rc)] w (BoolPost w (fok ⟨k, a, b, c, d, rs⟩)) := by
  unfold frV
  subst hn hc
  have k2 := bne_of h2
  have m2 := bnt h2
  have hp' : (0 : Int) < (rs.length : Int) := by omega
  go_enter Try.func24, Try.ntmps24
  go_wp2_with fail
  refine (snum_any _ _).mono ?_
  rw [HN.out]
  rintro e w' ⟨rfl, rfl⟩
  go_wp2_with fail
  go_ret
  exact BoolPost.of HF.out.symm ((Below.refl _ _).alloc (Nat.le_refl _) _)

set_option maxRecDepth 100000 in
set_option maxHeartbeats 1000000 in
theorem sval_d2 (k a b c : Int) (d : ByteArray) (rs : List (Int × Int)) (ra : Option Addr) (rc : Nat) (w : World) (HR : Hid (Rngs w (.slice ra rs.length rc) rs)) (hl : rs.length ≤ 1048576) (hd : d.size ≤ 2097152) (n : Nat) (HN : Hid (fnum k = n)) (hn : n = 2) (hc : c = 0) (h2 : k ≠ 2) (h3 : k ≠ 3) (h9 : k ≠ 9) (hp : ¬ 0 < rs.length) (hs : 0 < d.size) (HF : Hid (fok ⟨k, a, b, c, d, rs⟩ = (false))) :
    Calls Try.prog 24 #[frV ⟨k, a, b, c, d, rs⟩ (.slice ra rs.length rc)] w (BoolPost w (fok ⟨k, a, b, c, d, rs⟩)) := by
  unfold frV
  subst hn hc
  have k2 := bne_of h2
  have k3 := bne_of h3
  have k9 := bne_of h9
  have m2 := bnt h2
  have m3 := bnt h3
  have m9 := bnt h9
  have hp' : ¬ (0 : Int) < (rs.length : Int) := by omega
  have he := isEmpty_of_pos (s := d) (by omega)
  go_enter Try.func24, Try.ntmps24
  go_wp2_with fail
  refine (snum_any _ _).mono ?_
  rw [HN.out]
  rintro e w' ⟨rfl, rfl⟩
  go_wp2_with fail
  go_ret
  exact BoolPost.of HF.out.symm ((Below.refl _ _).alloc (Nat.le_refl _) _)

set_option maxRecDepth 100000 in
set_option maxHeartbeats 1000000 in
theorem sval_p2 (k a b c : Int) (d : ByteArray) (rs : List (Int × Int)) (ra : Option Addr) (rc : Nat) (w : World) (HR : Hid (Rngs w (.slice ra rs.length rc) rs)) (hl : rs.length ≤ 1048576) (hd : d.size ≤ 2097152) (n : Nat) (HN : Hid (fnum k = n)) (hn : n = 2) (hc : c = 0) (h2 : k ≠ 2) (h3 : k ≠ 3) (h9 : k ≠ 9) (hp : ¬ 0 < rs.length) (hs : d.size = 0) (HF : Hid (fok ⟨k, a, b, c, d, rs⟩ = (ffld ⟨k, a, b, c, d, rs⟩ && decide (d.size ≤ 12)))) :
    Calls Try.prog 24 #[frV ⟨k, a, b, c, d, rs⟩ (.slice ra rs.length rc)] w (BoolPost w (fok ⟨k, a, b, c, d, rs⟩)) := by
  unfold frV
  subst hn hc
  have k2 := bne_of h2
  have k3 := bne_of h3
  have k9 := bne_of h9
  have m2 := bnt h2
  have m3 := bnt h3
  have m9 := bnt h9
  have hp' : ¬ (0 : Int) < (rs.length : Int) := by omega
  have he := isEmpty_of_zero hs
  go_enter Try.func24, Try.ntmps24
  go_wp2_with fail
  refine (snum_any _ _).mono ?_
  rw [HN.out]
  rintro e w' ⟨rfl, rfl⟩
  go_wp2_with fail
  refine (sfld_any ⟨k, a, b, 0, d, rs⟩ _ _ (HR.out.below ((Below.refl _ _).alloc (Nat.le_refl _) _)) hl hd).mono ?_
  rintro e w' ⟨rfl, hb⟩
  have HB := Lib.hid (((Below.refl w.heap.size w).alloc (Nat.le_refl _) _).trans (hb.mono (by simp)))
  have c4 : w'.cell? ⟨w.heap.size, 4, none⟩ = some (.string d) := (hb.cell (by simp)).trans (by rw [World.cell?_alloc_mark]; rfl)
  clear hb
  obtain ⟨q, hq⟩ : ∃ q, ffld ⟨k, a, b, 0, d, rs⟩ = q := ⟨_, rfl⟩
  rw [hq]
  have HQ := Lib.hid hq
  clear hq
  cases q
  · go_wp2_with fail
    go_ret
    exact BoolPost.of (by rw [HF.out, HQ.out]; rfl) HB.out
  · go_wp2_with fail
    go_ret
    exact BoolPost.of (by rw [HF.out, HQ.out, Bool.true_and]; first | (rw [decide_eq_decide]; omega) | exact (decide_eq_true (by omega)).symm) HB.out

set_option maxRecDepth 100000 in
set_option maxHeartbeats 1000000 in
theorem sval_r3 (k a b c : Int) (d : ByteArray) (rs : List (Int × Int)) (ra : Option Addr) (rc : Nat) (w : World) (HR : Hid (Rngs w (.slice ra rs.length rc) rs)) (hl : rs.length ≤ 1048576) (hd : d.size ≤ 2097152) (n : Nat) (HN : Hid (fnum k = n)) (hn : n = 3) (h2 : k ≠ 2) (hp : 0 < rs.length) (HF : Hid (fok ⟨k, a, b, c, d, rs⟩ = (false))) :
    Calls Try.prog 24 #[frV ⟨k, a, b, c, d, rs⟩ (.slice ra rs.length rc)] w (BoolPost w (fok ⟨k, a, b, c, d, rs⟩)) := by
  unfold frV
  subst hn
  have k2 := bne_of h2
  have m2 := bnt h2
  have hp' : (0 : Int) < (rs.length : Int) := by omega
  go_enter Try.func24, Try.ntmps24
  go_wp2_with fail
  refine (snum_any _ _).mono ?_
  rw [HN.out]
  rintro e w' ⟨rfl, rfl⟩
  go_wp2_with fail
  go_ret
  exact BoolPost.of HF.out.symm ((Below.refl _ _).alloc (Nat.le_refl _) _)

set_option maxRecDepth 100000 in
set_option maxHeartbeats 1000000 in
theorem sval_3 (k a b c : Int) (d : ByteArray) (rs : List (Int × Int)) (ra : Option Addr) (rc : Nat) (w : World) (HR : Hid (Rngs w (.slice ra rs.length rc) rs)) (hl : rs.length ≤ 1048576) (hd : d.size ≤ 2097152) (n : Nat) (HN : Hid (fnum 3 = n)) (hn : n = 3) (hp : ¬ 0 < rs.length) (HF : Hid (fok ⟨3, a, b, c, d, rs⟩ = (ffld ⟨3, a, b, c, d, rs⟩ && decide (d.size ≤ 12)))) :
    Calls Try.prog 24 #[frV ⟨3, a, b, c, d, rs⟩ (.slice ra rs.length rc)] w (BoolPost w (fok ⟨3, a, b, c, d, rs⟩)) := by
  unfold frV
  subst hn
  have hp' : ¬ (0 : Int) < (rs.length : Int) := by omega
  go_enter Try.func24, Try.ntmps24
  go_wp2_with fail
  refine (snum_any _ _).mono ?_
  rw [HN.out]
  rintro e w' ⟨rfl, rfl⟩
  go_wp2_with fail
  refine (sfld_any ⟨3, a, b, c, d, rs⟩ _ _ (HR.out.below ((Below.refl _ _).alloc (Nat.le_refl _) _)) hl hd).mono ?_
  rintro e w' ⟨rfl, hb⟩
  have HB := Lib.hid (((Below.refl w.heap.size w).alloc (Nat.le_refl _) _).trans (hb.mono (by simp)))
  have c4 : w'.cell? ⟨w.heap.size, 4, none⟩ = some (.string d) := (hb.cell (by simp)).trans (by rw [World.cell?_alloc_mark]; rfl)
  clear hb
  obtain ⟨q, hq⟩ : ∃ q, ffld ⟨3, a, b, c, d, rs⟩ = q := ⟨_, rfl⟩
  rw [hq]
  have HQ := Lib.hid hq
  clear hq
  cases q
  · go_wp2_with fail
    go_ret
    exact BoolPost.of (by rw [HF.out, HQ.out]; rfl) HB.out
  · go_wp2_with fail
    go_ret
    exact BoolPost.of (by rw [HF.out, HQ.out, Bool.true_and]; first | (rw [decide_eq_decide]; omega) | exact (decide_eq_true (by omega)).symm) HB.out


/-- Which way FrameValid goes. -/
theorem fok_no1 {f : Fr} (h : fun1 f = false) : fok f = false := by unfold fok; rw [h]; rfl
theorem fok_no2 {f : Fr} (h : fun2 f = false) : fok f = false := by unfold fok; rw [h]; cases fun1 f <;> rfl
theorem fok_yes {f : Fr} (h1 : fun1 f = true) (h2 : fun2 f = true) : fok f = (ffld f && decide (f.d.size ≤ 12)) := by unfold fok; rw [h1, h2]; rfl
theorem fnum_3 {k : Int} (h : fnum k = 3) : k = 3 := by unfold fnum at h; repeat' split at h
                                                        all_goals omega
theorem fnum_1 {k : Int} (h : k = 2) : fnum k = 1 := by subst h; rfl
theorem fnum_9 {k : Int} (h : k = 9) : fnum k = 0 := by subst h; rfl

theorem sfok_any (f : Fr) (v : Value) (w : World) (h : Rngs w v f.rs) (hl : f.rs.length ≤ 1048576) (hd : f.d.size ≤ 2097152) : Calls Try.prog 24 #[frV f v] w (BoolPost w (fok f)) := by
  have HR := Lib.hid h
  obtain ⟨ra, rc, rfl, hr⟩ := h
  clear hr
  cases f with | mk k a b c d rs =>
  simp only at hl hd HR
  have hn := fnum_le k
  by_cases c1 : fnum k < 3 ∧ c ≠ 0
  · exact sval_c k a b c d rs ra rc w HR hl hd _ (Lib.hid rfl) c1.1 c1.2 (Lib.hid (fok_no1 (decide_eq_false fun h => c1.2 (h.1 c1.1))))
  have hc : fnum k < 3 → c = 0 := fun q => Decidable.byContradiction fun h => c1 ⟨q, h⟩
  by_cases c2 : fnum k < 2 ∧ b ≠ 0
  · exact sval_b k a b c d rs ra rc w HR hl hd _ (Lib.hid rfl) c2.1 (hc (by omega)) c2.2 (Lib.hid (fok_no1 (decide_eq_false fun h => c2.2 (h.2.1 c2.1))))
  have hb : fnum k < 2 → b = 0 := fun q => Decidable.byContradiction fun h => c2 ⟨q, h⟩
  by_cases c3 : fnum k < 1 ∧ a ≠ 0
  · exact sval_a k a b c d rs ra rc w HR hl hd _ (Lib.hid rfl) c3.1 (hc (by omega)) (hb (by omega)) c3.2 (Lib.hid (fok_no1 (decide_eq_false fun h => c3.2 (h.2.2 c3.1))))
  have ha : fnum k < 1 → a = 0 := fun q => Decidable.byContradiction fun h => c3 ⟨q, h⟩
  have u1 : fun1 ⟨k, a, b, c, d, rs⟩ = true := decide_eq_true ⟨hc, hb, ha⟩
  have hn4 : fnum k = 0 ∨ fnum k = 1 ∨ fnum k = 2 ∨ fnum k = 3 := by omega
  by_cases c4 : k ≠ 2 ∧ 0 < rs.length
  · have F : Hid (fok ⟨k, a, b, c, d, rs⟩ = false) := Lib.hid (fok_no2 (decide_eq_false fun h => by have := h.1 c4.1; simp only at this; omega))
    rcases hn4 with e | e | e | e
    · exact sval_r0 k a b c d rs ra rc w HR hl hd _ (Lib.hid rfl) e (hc (by omega)) (hb (by omega)) (ha (by omega)) c4.1 c4.2 F
    · exact sval_r1 k a b c d rs ra rc w HR hl hd _ (Lib.hid rfl) e (hc (by omega)) (hb (by omega)) c4.1 c4.2 F
    · exact sval_r2 k a b c d rs ra rc w HR hl hd _ (Lib.hid rfl) e (hc (by omega)) c4.1 c4.2 F
    · exact sval_r3 k a b c d rs ra rc w HR hl hd _ (Lib.hid rfl) e c4.1 c4.2 F
  have hr : k ≠ 2 → rs.length = 0 := fun q => by
    rcases Nat.eq_zero_or_pos rs.length with e | e
    · exact e
    · exact absurd ⟨q, e⟩ c4
  by_cases c5 : (k ≠ 3 ∧ k ≠ 9) ∧ 0 < d.size
  · have F : Hid (fok ⟨k, a, b, c, d, rs⟩ = false) := Lib.hid (fok_no2 (decide_eq_false fun h => by have := h.2 c5.1.1 c5.1.2; simp only at this; omega))
    by_cases k2 : k = 2
    · have e := fnum_1 k2
      subst k2
      exact sval_2d 0 a b c d rs ra rc w HR hl hd _ (Lib.hid rfl) rfl (hc (by decide)) (hb (by decide)) c5.2 F
    have hp : ¬ 0 < rs.length := by have := hr k2; omega
    rcases hn4 with e | e | e | e
    · exact sval_d0 k a b c d rs ra rc w HR hl hd _ (Lib.hid rfl) e (hc (by omega)) (hb (by omega)) (ha (by omega)) k2 c5.1.1 c5.1.2 hp c5.2 F
    · exact sval_d1 k a b c d rs ra rc w HR hl hd _ (Lib.hid rfl) e (hc (by omega)) (hb (by omega)) k2 c5.1.1 c5.1.2 hp c5.2 F
    · exact sval_d2 k a b c d rs ra rc w HR hl hd _ (Lib.hid rfl) e (hc (by omega)) k2 c5.1.1 c5.1.2 hp c5.2 F
    · exact absurd (fnum_3 e) c5.1.1
  have hs : k ≠ 3 → k ≠ 9 → d.size = 0 := fun q r => by
    rcases Nat.eq_zero_or_pos d.size with e | e
    · exact e
    · exact absurd ⟨⟨q, r⟩, e⟩ c5
  have F := Lib.hid (fok_yes u1 (show fun2 ⟨k, a, b, c, d, rs⟩ = true from decide_eq_true ⟨hr, hs⟩))
  by_cases k2 : k = 2
  · subst k2
    exact sval_2 0 a b c d rs ra rc w HR hl hd _ (Lib.hid rfl) rfl (hc (by decide)) (hb (by decide)) (hs (by decide) (by decide)) F
  have hp : ¬ 0 < rs.length := by have := hr k2; omega
  by_cases k3 : k = 3
  · subst k3
    exact sval_3 0 a b c d rs ra rc w HR hl hd _ (Lib.hid rfl) rfl hp F
  by_cases k9 : k = 9
  · subst k9
    exact sval_9 0 a b c d rs ra rc w HR hl hd _ (Lib.hid rfl) rfl (hc (by decide)) (hb (by decide)) (ha (by decide)) hp F
  rcases hn4 with e | e | e | e
  · exact sval_p0 k a b c d rs ra rc w HR hl hd _ (Lib.hid rfl) e (hc (by omega)) (hb (by omega)) (ha (by omega)) k2 k3 k9 hp (hs k3 k9) F
  · exact sval_p1 k a b c d rs ra rc w HR hl hd _ (Lib.hid rfl) e (hc (by omega)) (hb (by omega)) k2 k3 k9 hp (hs k3 k9) F
  · exact sval_p2 k a b c d rs ra rc w HR hl hd _ (Lib.hid rfl) e (hc (by omega)) k2 k3 k9 hp (hs k3 k9) F
  · exact absurd (fnum_3 e) k3

end Go.Proofs.Ytifohfclgonhfaa
