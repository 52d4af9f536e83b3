/- The program's FrameValid and FrameEliciting. -/
import Derived.Test.YthflokonihegbaaIVb
import Derived.Test.YthflokonihegbaaSFel
namespace Go.Proofs.Ythflokonihegbaa
open Go.RowKit
set_option linter.unusedVariables false
set_option linter.unusedSimpArgs false

set_option maxRecDepth 100000 in
set_option maxHeartbeats 1000000 in
theorem ifok_any (f : Fr) (v : Value) (w : World) (h : Rngs w v f.rs) (hl : f.rs.length ≤ 1048576) (hd : f.d.size ≤ 2097152) : Calls Try.prog 22 #[frV f v] w (BoolPost w (fok f)) := by
  have H := Lib.hid h
  obtain ⟨q, hq⟩ : ∃ q, fok f = q := ⟨_, rfl⟩
  have HV := Lib.hid (fun W h => vb_any f v W h hl)
  unfold vbR frV bodyV at HV
  unfold frV
  rw [hq] at HV ⊢
  clear h hq
  cases q
  all_goals
    go_enter Try.func22, Try.ntmps22
    go_wp2_with fail
    refine (HV.out _ (H.out.below ((Below.refl _ _).alloc (Nat.le_refl _) _))).mono ?_
    rintro e w1 ⟨rfl, hb⟩
    have HB := Lib.hid (((Below.refl w.heap.size w).alloc (Nat.le_refl _) _).trans (hb.mono (by simp)))
    clear hb
    go_wp2_with fail
    go_ret
    exact BoolPost.of rfl HB.out

set_option maxRecDepth 100000 in
set_option maxHeartbeats 1000000 in
theorem ifel_0 (a b c : Int) (d : ByteArray) (rs : List (Int × Int)) (ra : Option Addr) (rc : Nat) (w : World) (H : Hid (Rngs w (.slice ra rs.length rc) rs)) (hl : rs.length ≤ 1048576) (HF : Hid (fok ⟨0, a, b, c, d, rs⟩ = true)) : Calls Try.prog 33 #[frV ⟨0, a, b, c, d, rs⟩ (.slice ra rs.length rc)] w (BoolPost w (fel ⟨0, a, b, c, d, rs⟩)) := by
  have HV : Hid (∀ W, Rngs W (.slice ra rs.length rc) rs → Calls Try.prog 42 #[.agg #[.int .i64 0, .int .i64 a, .int .i64 b, .int .i64 c, .string d, .slice ra rs.length rc]] W (RetPost W (.tuple #[.iface 78 (.agg #[]), .bool true]))) := Lib.hid (fun W h => by
    have := vb_any ⟨0, a, b, c, d, rs⟩ (.slice ra rs.length rc) W h hl
    unfold vbR at this
    rw [HF.out] at this
    exact this)
  unfold frV
  have ta1 := fun (W : World) (x : Value) => (show Sem.run Try.prog (Instr.typeAssert (.iface 78 x) 54 78 true) W = .ok (.tuple #[x, .bool true]) W by rfl)
  have ta2 := fun (W : World) (x : Value) => (show Sem.run Try.prog (Instr.typeAssert (.iface 78 x) 54 80 true) W = .ok (.tuple #[.agg #[.int .i64 0, .slice none 0 0], .bool false]) W by rfl)
  have ta3 := fun (W : World) (x : Value) => (show Sem.run Try.prog (Instr.typeAssert (.iface 78 x) 54 82 true) W = .ok (.tuple #[.agg #[.int .i64 0], .bool false]) W by rfl)
  go_enter Try.func33, Try.ntmps33
  go_wp2_with fail
  refine (HV.out _ (H.out.below ((Below.refl _ _).alloc (Nat.le_refl _) _))).mono ?_
  rintro e w1 ⟨rfl, hb⟩
  have HB := Lib.hid (((Below.refl w.heap.size w).alloc (Nat.le_refl _) _).trans (hb.mono (by simp)))
  clear hb
  go_wp2_with fail
  go_ret
  exact BoolPost.of (by unfold fel; rw [HF.out]; rfl) HB.out
set_option maxRecDepth 100000 in
set_option maxHeartbeats 1000000 in
theorem ifel_1 (a b c : Int) (d : ByteArray) (rs : List (Int × Int)) (ra : Option Addr) (rc : Nat) (w : World) (H : Hid (Rngs w (.slice ra rs.length rc) rs)) (hl : rs.length ≤ 1048576) (HF : Hid (fok ⟨1, a, b, c, d, rs⟩ = true)) : Calls Try.prog 33 #[frV ⟨1, a, b, c, d, rs⟩ (.slice ra rs.length rc)] w (BoolPost w (fel ⟨1, a, b, c, d, rs⟩)) := by
  have HV : Hid (∀ W, Rngs W (.slice ra rs.length rc) rs → Calls Try.prog 42 #[.agg #[.int .i64 1, .int .i64 a, .int .i64 b, .int .i64 c, .string d, .slice ra rs.length rc]] W (RetPost W (.tuple #[.iface 111 (.agg #[]), .bool true]))) := Lib.hid (fun W h => by
    have := vb_any ⟨1, a, b, c, d, rs⟩ (.slice ra rs.length rc) W h hl
    unfold vbR at this
    rw [HF.out] at this
    exact this)
  unfold frV
  have ta1 := fun (W : World) (x : Value) => (show Sem.run Try.prog (Instr.typeAssert (.iface 111 x) 54 78 true) W = .ok (.tuple #[.agg #[], .bool false]) W by rfl)
  have ta2 := fun (W : World) (x : Value) => (show Sem.run Try.prog (Instr.typeAssert (.iface 111 x) 54 80 true) W = .ok (.tuple #[.agg #[.int .i64 0, .slice none 0 0], .bool false]) W by rfl)
  have ta3 := fun (W : World) (x : Value) => (show Sem.run Try.prog (Instr.typeAssert (.iface 111 x) 54 82 true) W = .ok (.tuple #[.agg #[.int .i64 0], .bool false]) W by rfl)
  go_enter Try.func33, Try.ntmps33
  go_wp2_with fail
  refine (HV.out _ (H.out.below ((Below.refl _ _).alloc (Nat.le_refl _) _))).mono ?_
  rintro e w1 ⟨rfl, hb⟩
  have HB := Lib.hid (((Below.refl w.heap.size w).alloc (Nat.le_refl _) _).trans (hb.mono (by simp)))
  clear hb
  go_wp2_with fail
  go_ret
  exact BoolPost.of (by unfold fel; rw [HF.out]; rfl) HB.out
set_option maxRecDepth 100000 in
set_option maxHeartbeats 1000000 in
theorem ifel_2 (a b c : Int) (d : ByteArray) (rs : List (Int × Int)) (ra : Option Addr) (rc : Nat) (w : World) (H : Hid (Rngs w (.slice ra rs.length rc) rs)) (hl : rs.length ≤ 1048576) (HF : Hid (fok ⟨2, a, b, c, d, rs⟩ = true)) : Calls Try.prog 33 #[frV ⟨2, a, b, c, d, rs⟩ (.slice ra rs.length rc)] w (BoolPost w (fel ⟨2, a, b, c, d, rs⟩)) := by
  have HV : Hid (∀ W, Rngs W (.slice ra rs.length rc) rs → Calls Try.prog 42 #[.agg #[.int .i64 2, .int .i64 a, .int .i64 b, .int .i64 c, .string d, .slice ra rs.length rc]] W (RetPost W (.tuple #[.iface 80 (.agg #[.int .i64 a, .slice ra rs.length rc]), .bool true]))) := Lib.hid (fun W h => by
    have := vb_any ⟨2, a, b, c, d, rs⟩ (.slice ra rs.length rc) W h hl
    unfold vbR at this
    rw [HF.out] at this
    exact this)
  unfold frV
  have ta1 := fun (W : World) (x : Value) => (show Sem.run Try.prog (Instr.typeAssert (.iface 80 x) 54 78 true) W = .ok (.tuple #[.agg #[], .bool false]) W by rfl)
  have ta2 := fun (W : World) (x : Value) => (show Sem.run Try.prog (Instr.typeAssert (.iface 80 x) 54 80 true) W = .ok (.tuple #[x, .bool true]) W by rfl)
  have ta3 := fun (W : World) (x : Value) => (show Sem.run Try.prog (Instr.typeAssert (.iface 80 x) 54 82 true) W = .ok (.tuple #[.agg #[.int .i64 0], .bool false]) W by rfl)
  go_enter Try.func33, Try.ntmps33
  go_wp2_with fail
  refine (HV.out _ (H.out.below ((Below.refl _ _).alloc (Nat.le_refl _) _))).mono ?_
  rintro e w1 ⟨rfl, hb⟩
  have HB := Lib.hid (((Below.refl w.heap.size w).alloc (Nat.le_refl _) _).trans (hb.mono (by simp)))
  clear hb
  go_wp2_with fail
  go_ret
  exact BoolPost.of (by unfold fel; rw [HF.out]; rfl) HB.out
set_option maxRecDepth 100000 in
set_option maxHeartbeats 1000000 in
theorem ifel_3 (a b c : Int) (d : ByteArray) (rs : List (Int × Int)) (ra : Option Addr) (rc : Nat) (w : World) (H : Hid (Rngs w (.slice ra rs.length rc) rs)) (hl : rs.length ≤ 1048576) (HF : Hid (fok ⟨3, a, b, c, d, rs⟩ = true)) : Calls Try.prog 33 #[frV ⟨3, a, b, c, d, rs⟩ (.slice ra rs.length rc)] w (BoolPost w (fel ⟨3, a, b, c, d, rs⟩)) := by
  have HV : Hid (∀ W, Rngs W (.slice ra rs.length rc) rs → Calls Try.prog 42 #[.agg #[.int .i64 3, .int .i64 a, .int .i64 b, .int .i64 c, .string d, .slice ra rs.length rc]] W (RetPost W (.tuple #[.iface 94 (.agg #[.int .i64 a, .int .i64 b, .int .i64 c, .string d]), .bool true]))) := Lib.hid (fun W h => by
    have := vb_any ⟨3, a, b, c, d, rs⟩ (.slice ra rs.length rc) W h hl
    unfold vbR at this
    rw [HF.out] at this
    exact this)
  unfold frV
  have ta1 := fun (W : World) (x : Value) => (show Sem.run Try.prog (Instr.typeAssert (.iface 94 x) 54 78 true) W = .ok (.tuple #[.agg #[], .bool false]) W by rfl)
  have ta2 := fun (W : World) (x : Value) => (show Sem.run Try.prog (Instr.typeAssert (.iface 94 x) 54 80 true) W = .ok (.tuple #[.agg #[.int .i64 0, .slice none 0 0], .bool false]) W by rfl)
  have ta3 := fun (W : World) (x : Value) => (show Sem.run Try.prog (Instr.typeAssert (.iface 94 x) 54 82 true) W = .ok (.tuple #[.agg #[.int .i64 0], .bool false]) W by rfl)
  go_enter Try.func33, Try.ntmps33
  go_wp2_with fail
  refine (HV.out _ (H.out.below ((Below.refl _ _).alloc (Nat.le_refl _) _))).mono ?_
  rintro e w1 ⟨rfl, hb⟩
  have HB := Lib.hid (((Below.refl w.heap.size w).alloc (Nat.le_refl _) _).trans (hb.mono (by simp)))
  clear hb
  go_wp2_with fail
  go_ret
  exact BoolPost.of (by unfold fel; rw [HF.out]; rfl) HB.out
set_option maxRecDepth 100000 in
set_option maxHeartbeats 1000000 in
theorem ifel_4 (a b c : Int) (d : ByteArray) (rs : List (Int × Int)) (ra : Option Addr) (rc : Nat) (w : World) (H : Hid (Rngs w (.slice ra rs.length rc) rs)) (hl : rs.length ≤ 1048576) (HF : Hid (fok ⟨4, a, b, c, d, rs⟩ = true)) : Calls Try.prog 33 #[frV ⟨4, a, b, c, d, rs⟩ (.slice ra rs.length rc)] w (BoolPost w (fel ⟨4, a, b, c, d, rs⟩)) := by
  have HV : Hid (∀ W, Rngs W (.slice ra rs.length rc) rs → Calls Try.prog 42 #[.agg #[.int .i64 4, .int .i64 a, .int .i64 b, .int .i64 c, .string d, .slice ra rs.length rc]] W (RetPost W (.tuple #[.iface 97 (.agg #[.int .i64 a, .int .i64 b]), .bool true]))) := Lib.hid (fun W h => by
    have := vb_any ⟨4, a, b, c, d, rs⟩ (.slice ra rs.length rc) W h hl
    unfold vbR at this
    rw [HF.out] at this
    exact this)
  unfold frV
  have ta1 := fun (W : World) (x : Value) => (show Sem.run Try.prog (Instr.typeAssert (.iface 97 x) 54 78 true) W = .ok (.tuple #[.agg #[], .bool false]) W by rfl)
  have ta2 := fun (W : World) (x : Value) => (show Sem.run Try.prog (Instr.typeAssert (.iface 97 x) 54 80 true) W = .ok (.tuple #[.agg #[.int .i64 0, .slice none 0 0], .bool false]) W by rfl)
  have ta3 := fun (W : World) (x : Value) => (show Sem.run Try.prog (Instr.typeAssert (.iface 97 x) 54 82 true) W = .ok (.tuple #[.agg #[.int .i64 0], .bool false]) W by rfl)
  go_enter Try.func33, Try.ntmps33
  go_wp2_with fail
  refine (HV.out _ (H.out.below ((Below.refl _ _).alloc (Nat.le_refl _) _))).mono ?_
  rintro e w1 ⟨rfl, hb⟩
  have HB := Lib.hid (((Below.refl w.heap.size w).alloc (Nat.le_refl _) _).trans (hb.mono (by simp)))
  clear hb
  go_wp2_with fail
  go_ret
  exact BoolPost.of (by unfold fel; rw [HF.out]; rfl) HB.out
set_option maxRecDepth 100000 in
set_option maxHeartbeats 1000000 in
theorem ifel_5 (a b c : Int) (d : ByteArray) (rs : List (Int × Int)) (ra : Option Addr) (rc : Nat) (w : World) (H : Hid (Rngs w (.slice ra rs.length rc) rs)) (hl : rs.length ≤ 1048576) (HF : Hid (fok ⟨5, a, b, c, d, rs⟩ = true)) : Calls Try.prog 33 #[frV ⟨5, a, b, c, d, rs⟩ (.slice ra rs.length rc)] w (BoolPost w (fel ⟨5, a, b, c, d, rs⟩)) := by
  have HV : Hid (∀ W, Rngs W (.slice ra rs.length rc) rs → Calls Try.prog 42 #[.agg #[.int .i64 5, .int .i64 a, .int .i64 b, .int .i64 c, .string d, .slice ra rs.length rc]] W (RetPost W (.tuple #[.iface 99 (.agg #[.int .i64 a]), .bool true]))) := Lib.hid (fun W h => by
    have := vb_any ⟨5, a, b, c, d, rs⟩ (.slice ra rs.length rc) W h hl
    unfold vbR at this
    rw [HF.out] at this
    exact this)
  unfold frV
  have ta1 := fun (W : World) (x : Value) => (show Sem.run Try.prog (Instr.typeAssert (.iface 99 x) 54 78 true) W = .ok (.tuple #[.agg #[], .bool false]) W by rfl)
  have ta2 := fun (W : World) (x : Value) => (show Sem.run Try.prog (Instr.typeAssert (.iface 99 x) 54 80 true) W = .ok (.tuple #[.agg #[.int .i64 0, .slice none 0 0], .bool false]) W by rfl)
  have ta3 := fun (W : World) (x : Value) => (show Sem.run Try.prog (Instr.typeAssert (.iface 99 x) 54 82 true) W = .ok (.tuple #[.agg #[.int .i64 0], .bool false]) W by rfl)
  go_enter Try.func33, Try.ntmps33
  go_wp2_with fail
  refine (HV.out _ (H.out.below ((Below.refl _ _).alloc (Nat.le_refl _) _))).mono ?_
  rintro e w1 ⟨rfl, hb⟩
  have HB := Lib.hid (((Below.refl w.heap.size w).alloc (Nat.le_refl _) _).trans (hb.mono (by simp)))
  clear hb
  go_wp2_with fail
  go_ret
  exact BoolPost.of (by unfold fel; rw [HF.out]; rfl) HB.out
set_option maxRecDepth 100000 in
set_option maxHeartbeats 1000000 in
theorem ifel_6 (a b c : Int) (d : ByteArray) (rs : List (Int × Int)) (ra : Option Addr) (rc : Nat) (w : World) (H : Hid (Rngs w (.slice ra rs.length rc) rs)) (hl : rs.length ≤ 1048576) (HF : Hid (fok ⟨6, a, b, c, d, rs⟩ = true)) : Calls Try.prog 33 #[frV ⟨6, a, b, c, d, rs⟩ (.slice ra rs.length rc)] w (BoolPost w (fel ⟨6, a, b, c, d, rs⟩)) := by
  have HV : Hid (∀ W, Rngs W (.slice ra rs.length rc) rs → Calls Try.prog 42 #[.agg #[.int .i64 6, .int .i64 a, .int .i64 b, .int .i64 c, .string d, .slice ra rs.length rc]] W (RetPost W (.tuple #[.iface 100 (.agg #[.int .i64 a]), .bool true]))) := Lib.hid (fun W h => by
    have := vb_any ⟨6, a, b, c, d, rs⟩ (.slice ra rs.length rc) W h hl
    unfold vbR at this
    rw [HF.out] at this
    exact this)
  unfold frV
  have ta1 := fun (W : World) (x : Value) => (show Sem.run Try.prog (Instr.typeAssert (.iface 100 x) 54 78 true) W = .ok (.tuple #[.agg #[], .bool false]) W by rfl)
  have ta2 := fun (W : World) (x : Value) => (show Sem.run Try.prog (Instr.typeAssert (.iface 100 x) 54 80 true) W = .ok (.tuple #[.agg #[.int .i64 0, .slice none 0 0], .bool false]) W by rfl)
  have ta3 := fun (W : World) (x : Value) => (show Sem.run Try.prog (Instr.typeAssert (.iface 100 x) 54 82 true) W = .ok (.tuple #[.agg #[.int .i64 0], .bool false]) W by rfl)
  go_enter Try.func33, Try.ntmps33
  go_wp2_with fail
  refine (HV.out _ (H.out.below ((Below.refl _ _).alloc (Nat.le_refl _) _))).mono ?_
  rintro e w1 ⟨rfl, hb⟩
  have HB := Lib.hid (((Below.refl w.heap.size w).alloc (Nat.le_refl _) _).trans (hb.mono (by simp)))
  clear hb
  go_wp2_with fail
  go_ret
  exact BoolPost.of (by unfold fel; rw [HF.out]; rfl) HB.out
set_option maxRecDepth 100000 in
set_option maxHeartbeats 1000000 in
theorem ifel_7 (a b c : Int) (d : ByteArray) (rs : List (Int × Int)) (ra : Option Addr) (rc : Nat) (w : World) (H : Hid (Rngs w (.slice ra rs.length rc) rs)) (hl : rs.length ≤ 1048576) (HF : Hid (fok ⟨7, a, b, c, d, rs⟩ = true)) : Calls Try.prog 33 #[frV ⟨7, a, b, c, d, rs⟩ (.slice ra rs.length rc)] w (BoolPost w (fel ⟨7, a, b, c, d, rs⟩)) := by
  have HV : Hid (∀ W, Rngs W (.slice ra rs.length rc) rs → Calls Try.prog 42 #[.agg #[.int .i64 7, .int .i64 a, .int .i64 b, .int .i64 c, .string d, .slice ra rs.length rc]] W (RetPost W (.tuple #[.iface 102 (.agg #[.int .i64 a, .int .i64 b]), .bool true]))) := Lib.hid (fun W h => by
    have := vb_any ⟨7, a, b, c, d, rs⟩ (.slice ra rs.length rc) W h hl
    unfold vbR at this
    rw [HF.out] at this
    exact this)
  unfold frV
  have ta1 := fun (W : World) (x : Value) => (show Sem.run Try.prog (Instr.typeAssert (.iface 102 x) 54 78 true) W = .ok (.tuple #[.agg #[], .bool false]) W by rfl)
  have ta2 := fun (W : World) (x : Value) => (show Sem.run Try.prog (Instr.typeAssert (.iface 102 x) 54 80 true) W = .ok (.tuple #[.agg #[.int .i64 0, .slice none 0 0], .bool false]) W by rfl)
  have ta3 := fun (W : World) (x : Value) => (show Sem.run Try.prog (Instr.typeAssert (.iface 102 x) 54 82 true) W = .ok (.tuple #[.agg #[.int .i64 0], .bool false]) W by rfl)
  go_enter Try.func33, Try.ntmps33
  go_wp2_with fail
  refine (HV.out _ (H.out.below ((Below.refl _ _).alloc (Nat.le_refl _) _))).mono ?_
  rintro e w1 ⟨rfl, hb⟩
  have HB := Lib.hid (((Below.refl w.heap.size w).alloc (Nat.le_refl _) _).trans (hb.mono (by simp)))
  clear hb
  go_wp2_with fail
  go_ret
  exact BoolPost.of (by unfold fel; rw [HF.out]; rfl) HB.out
set_option maxRecDepth 100000 in
set_option maxHeartbeats 1000000 in
theorem ifel_8 (a b c : Int) (d : ByteArray) (rs : List (Int × Int)) (ra : Option Addr) (rc : Nat) (w : World) (H : Hid (Rngs w (.slice ra rs.length rc) rs)) (hl : rs.length ≤ 1048576) (HF : Hid (fok ⟨8, a, b, c, d, rs⟩ = true)) : Calls Try.prog 33 #[frV ⟨8, a, b, c, d, rs⟩ (.slice ra rs.length rc)] w (BoolPost w (fel ⟨8, a, b, c, d, rs⟩)) := by
  have HV : Hid (∀ W, Rngs W (.slice ra rs.length rc) rs → Calls Try.prog 42 #[.agg #[.int .i64 8, .int .i64 a, .int .i64 b, .int .i64 c, .string d, .slice ra rs.length rc]] W (RetPost W (.tuple #[.iface 104 (.agg #[.int .i64 a]), .bool true]))) := Lib.hid (fun W h => by
    have := vb_any ⟨8, a, b, c, d, rs⟩ (.slice ra rs.length rc) W h hl
    unfold vbR at this
    rw [HF.out] at this
    exact this)
  unfold frV
  have ta1 := fun (W : World) (x : Value) => (show Sem.run Try.prog (Instr.typeAssert (.iface 104 x) 54 78 true) W = .ok (.tuple #[.agg #[], .bool false]) W by rfl)
  have ta2 := fun (W : World) (x : Value) => (show Sem.run Try.prog (Instr.typeAssert (.iface 104 x) 54 80 true) W = .ok (.tuple #[.agg #[.int .i64 0, .slice none 0 0], .bool false]) W by rfl)
  have ta3 := fun (W : World) (x : Value) => (show Sem.run Try.prog (Instr.typeAssert (.iface 104 x) 54 82 true) W = .ok (.tuple #[.agg #[.int .i64 0], .bool false]) W by rfl)
  go_enter Try.func33, Try.ntmps33
  go_wp2_with fail
  refine (HV.out _ (H.out.below ((Below.refl _ _).alloc (Nat.le_refl _) _))).mono ?_
  rintro e w1 ⟨rfl, hb⟩
  have HB := Lib.hid (((Below.refl w.heap.size w).alloc (Nat.le_refl _) _).trans (hb.mono (by simp)))
  clear hb
  go_wp2_with fail
  go_ret
  exact BoolPost.of (by unfold fel; rw [HF.out]; rfl) HB.out
set_option maxRecDepth 100000 in
set_option maxHeartbeats 1000000 in
theorem ifel_9 (a b c : Int) (d : ByteArray) (rs : List (Int × Int)) (ra : Option Addr) (rc : Nat) (w : World) (H : Hid (Rngs w (.slice ra rs.length rc) rs)) (hl : rs.length ≤ 1048576) (HF : Hid (fok ⟨9, a, b, c, d, rs⟩ = true)) : Calls Try.prog 33 #[frV ⟨9, a, b, c, d, rs⟩ (.slice ra rs.length rc)] w (BoolPost w (fel ⟨9, a, b, c, d, rs⟩)) := by
  have HV : Hid (∀ W, Rngs W (.slice ra rs.length rc) rs → Calls Try.prog 42 #[.agg #[.int .i64 9, .int .i64 a, .int .i64 b, .int .i64 c, .string d, .slice ra rs.length rc]] W (RetPost W (.tuple #[.iface 106 (.agg #[.string d]), .bool true]))) := Lib.hid (fun W h => by
    have := vb_any ⟨9, a, b, c, d, rs⟩ (.slice ra rs.length rc) W h hl
    unfold vbR at this
    rw [HF.out] at this
    exact this)
  unfold frV
  have ta1 := fun (W : World) (x : Value) => (show Sem.run Try.prog (Instr.typeAssert (.iface 106 x) 54 78 true) W = .ok (.tuple #[.agg #[], .bool false]) W by rfl)
  have ta2 := fun (W : World) (x : Value) => (show Sem.run Try.prog (Instr.typeAssert (.iface 106 x) 54 80 true) W = .ok (.tuple #[.agg #[.int .i64 0, .slice none 0 0], .bool false]) W by rfl)
  have ta3 := fun (W : World) (x : Value) => (show Sem.run Try.prog (Instr.typeAssert (.iface 106 x) 54 82 true) W = .ok (.tuple #[.agg #[.int .i64 0], .bool false]) W by rfl)
  go_enter Try.func33, Try.ntmps33
  go_wp2_with fail
  refine (HV.out _ (H.out.below ((Below.refl _ _).alloc (Nat.le_refl _) _))).mono ?_
  rintro e w1 ⟨rfl, hb⟩
  have HB := Lib.hid (((Below.refl w.heap.size w).alloc (Nat.le_refl _) _).trans (hb.mono (by simp)))
  clear hb
  go_wp2_with fail
  go_ret
  exact BoolPost.of (by unfold fel; rw [HF.out]; rfl) HB.out
set_option maxRecDepth 100000 in
set_option maxHeartbeats 1000000 in
theorem ifel_10 (a b c : Int) (d : ByteArray) (rs : List (Int × Int)) (ra : Option Addr) (rc : Nat) (w : World) (H : Hid (Rngs w (.slice ra rs.length rc) rs)) (hl : rs.length ≤ 1048576) (HF : Hid (fok ⟨10, a, b, c, d, rs⟩ = true)) : Calls Try.prog 33 #[frV ⟨10, a, b, c, d, rs⟩ (.slice ra rs.length rc)] w (BoolPost w (fel ⟨10, a, b, c, d, rs⟩)) := by
  have HV : Hid (∀ W, Rngs W (.slice ra rs.length rc) rs → Calls Try.prog 42 #[.agg #[.int .i64 10, .int .i64 a, .int .i64 b, .int .i64 c, .string d, .slice ra rs.length rc]] W (RetPost W (.tuple #[.iface 82 (.agg #[.int .i64 a]), .bool true]))) := Lib.hid (fun W h => by
    have := vb_any ⟨10, a, b, c, d, rs⟩ (.slice ra rs.length rc) W h hl
    unfold vbR at this
    rw [HF.out] at this
    exact this)
  unfold frV
  have ta1 := fun (W : World) (x : Value) => (show Sem.run Try.prog (Instr.typeAssert (.iface 82 x) 54 78 true) W = .ok (.tuple #[.agg #[], .bool false]) W by rfl)
  have ta2 := fun (W : World) (x : Value) => (show Sem.run Try.prog (Instr.typeAssert (.iface 82 x) 54 80 true) W = .ok (.tuple #[.agg #[.int .i64 0, .slice none 0 0], .bool false]) W by rfl)
  have ta3 := fun (W : World) (x : Value) => (show Sem.run Try.prog (Instr.typeAssert (.iface 82 x) 54 82 true) W = .ok (.tuple #[x, .bool true]) W by rfl)
  go_enter Try.func33, Try.ntmps33
  go_wp2_with fail
  refine (HV.out _ (H.out.below ((Below.refl _ _).alloc (Nat.le_refl _) _))).mono ?_
  rintro e w1 ⟨rfl, hb⟩
  have HB := Lib.hid (((Below.refl w.heap.size w).alloc (Nat.le_refl _) _).trans (hb.mono (by simp)))
  clear hb
  go_wp2_with fail
  go_ret
  exact BoolPost.of (by unfold fel; rw [HF.out]; rfl) HB.out
set_option maxRecDepth 100000 in
set_option maxHeartbeats 1000000 in
theorem ifel_no (f : Fr) (v : Value) (w : World) (H : Hid (Rngs w v f.rs)) (hl : f.rs.length ≤ 1048576) (HF : Hid (fok f = false)) : Calls Try.prog 33 #[frV f v] w (BoolPost w (fel f)) := by
  have HV := Lib.hid (fun W h => vb_any f v W h hl)
  unfold vbR frV bodyV at HV
  unfold frV
  rw [HF.out] at HV
  go_enter Try.func33, Try.ntmps33
  go_wp2_with fail
  refine (HV.out _ (H.out.below ((Below.refl _ _).alloc (Nat.le_refl _) _))).mono ?_
  rintro e w1 ⟨rfl, hb⟩
  have HB := Lib.hid (((Below.refl w.heap.size w).alloc (Nat.le_refl _) _).trans (hb.mono (by simp)))
  clear hb
  go_wp2_with fail
  go_ret
  exact BoolPost.of (by unfold fel; rw [HF.out]; rfl) HB.out
theorem ifel_any (f : Fr) (v : Value) (w : World) (h : Rngs w v f.rs) (hl : f.rs.length ≤ 1048576) (hd : f.d.size ≤ 2097152) : Calls Try.prog 33 #[frV f v] w (BoolPost w (fel f)) := by
  have H := Lib.hid h
  cases hf : fok f
  · exact ifel_no f v w H hl (Lib.hid hf)
  · obtain ⟨ra, rc, rfl, hc⟩ := h
    obtain ⟨k, a, b, c, d, rs⟩ := f
    have hk := fok_k hf
    simp only at hk hl H
    have : k = 0 ∨ k = 1 ∨ k = 2 ∨ k = 3 ∨ k = 4 ∨ k = 5 ∨ k = 6 ∨ k = 7 ∨ k = 8 ∨ k = 9 ∨ k = 10 := by omega
    rcases this with rfl | rfl | rfl | rfl | rfl | rfl | rfl | rfl | rfl | rfl | rfl
    · exact ifel_0 a b c d rs ra rc w H hl (Lib.hid hf)
    · exact ifel_1 a b c d rs ra rc w H hl (Lib.hid hf)
    · exact ifel_2 a b c d rs ra rc w H hl (Lib.hid hf)
    · exact ifel_3 a b c d rs ra rc w H hl (Lib.hid hf)
    · exact ifel_4 a b c d rs ra rc w H hl (Lib.hid hf)
    · exact ifel_5 a b c d rs ra rc w H hl (Lib.hid hf)
    · exact ifel_6 a b c d rs ra rc w H hl (Lib.hid hf)
    · exact ifel_7 a b c d rs ra rc w H hl (Lib.hid hf)
    · exact ifel_8 a b c d rs ra rc w H hl (Lib.hid hf)
    · exact ifel_9 a b c d rs ra rc w H hl (Lib.hid hf)
    · exact ifel_10 a b c d rs ra rc w H hl (Lib.hid hf)

end Go.Proofs.Ythflokonihegbaa
