/- The program's encodeBody. -/
import Derived.Test.YthflokonihegbaaIInt
import Derived.Test.YthflokonihegbaaIMeth
namespace Go.Proofs.Ythflokonihegbaa
open Go.RowKit
set_option linter.unusedVariables false
set_option linter.unusedSimpArgs false

theorem jsz (xs : List Int) (n : Nat) (h : xs.length = n) : (joinS xs).size ≤ 4 * n := by subst h; exact joinS_size xs

set_option maxRecDepth 100000 in
set_option maxHeartbeats 1000000 in
theorem enb_0 (w : World) : Calls Try.prog 43 #[.iface 78 (.agg #[])] w (EncPost w (joinS [0])) := by
  have HF := Lib.hid (fun W => frame_0 W)
  unfold frV at HF
  have hfl := fun (W : World) (x1 x2 x3 x4 x5 : Value) => (show Sem.run Try.prog (Instr.field 25 (.agg #[.int .i64 0, x1, x2, x3, x4, x5]) 0) W = .ok (.int .i64 0) W by rfl)
  have ta0 := fun (W : World) (x : Value) => (show Sem.run Try.prog (Instr.typeAssert (.iface 78 x) 54 80 true) W = .ok (.tuple #[.agg #[.int .i64 0, .slice none 0 0], .bool false]) W by rfl)
  have ta1 := fun (W : World) (x : Value) => (show Sem.run Try.prog (Instr.typeAssert (.iface 78 x) 54 94 true) W = .ok (.tuple #[.agg #[.int .i64 0, .int .i64 0, .int .i64 0, .string ⟨#[]⟩], .bool false]) W by rfl)
  have ta2 := fun (W : World) (x : Value) => (show Sem.run Try.prog (Instr.typeAssert (.iface 78 x) 54 97 true) W = .ok (.tuple #[.agg #[.int .i64 0, .int .i64 0], .bool false]) W by rfl)
  have ta3 := fun (W : World) (x : Value) => (show Sem.run Try.prog (Instr.typeAssert (.iface 78 x) 54 99 true) W = .ok (.tuple #[.agg #[.int .i64 0], .bool false]) W by rfl)
  have ta4 := fun (W : World) (x : Value) => (show Sem.run Try.prog (Instr.typeAssert (.iface 78 x) 54 100 true) W = .ok (.tuple #[.agg #[.int .i64 0], .bool false]) W by rfl)
  have ta5 := fun (W : World) (x : Value) => (show Sem.run Try.prog (Instr.typeAssert (.iface 78 x) 54 102 true) W = .ok (.tuple #[.agg #[.int .i64 0, .int .i64 0], .bool false]) W by rfl)
  have ta6 := fun (W : World) (x : Value) => (show Sem.run Try.prog (Instr.typeAssert (.iface 78 x) 54 104 true) W = .ok (.tuple #[.agg #[.int .i64 0], .bool false]) W by rfl)
  have ta7 := fun (W : World) (x : Value) => (show Sem.run Try.prog (Instr.typeAssert (.iface 78 x) 54 106 true) W = .ok (.tuple #[.agg #[.string ⟨#[]⟩], .bool false]) W by rfl)
  have ta8 := fun (W : World) (x : Value) => (show Sem.run Try.prog (Instr.typeAssert (.iface 78 x) 54 82 true) W = .ok (.tuple #[.agg #[.int .i64 0], .bool false]) W by rfl)
  have hs0 := jsz [0] 1 rfl
  go_enter Try.func43, Try.ntmps43
  go_wp2_with fail
  refine (HF.out _).mono ?_
  rintro e w1 ⟨rfl, hb1⟩
  have HB1 := Lib.hid hb1
  clear hb1
  go_wp2_with fail
  refine (ei_any _ [0] _ (ints_at w1 _ 1 [0] rfl rfl (by omega)) (by simp)).mono ?_
  rintro e w2 ⟨rfl, hb2⟩
  have HB2 := Lib.hid (HB1.out.trans (((Below.refl w1.heap.size w1).alloc (Nat.le_refl _) _).trans (hb2.mono (by simp)) |>.mono HB1.out.size))
  clear hb2
  go_wp2_with fail
  go_ret
  exact ⟨rfl, HB2.out⟩

set_option maxRecDepth 100000 in
set_option maxHeartbeats 1000000 in
theorem enb_1 (w : World) : Calls Try.prog 43 #[.iface 111 (.agg #[])] w (EncPost w (joinS [1])) := by
  have HF := Lib.hid (fun W => frame_1 W)
  unfold frV at HF
  have hfl := fun (W : World) (x1 x2 x3 x4 x5 : Value) => (show Sem.run Try.prog (Instr.field 25 (.agg #[.int .i64 1, x1, x2, x3, x4, x5]) 0) W = .ok (.int .i64 1) W by rfl)
  have ta0 := fun (W : World) (x : Value) => (show Sem.run Try.prog (Instr.typeAssert (.iface 111 x) 54 80 true) W = .ok (.tuple #[.agg #[.int .i64 0, .slice none 0 0], .bool false]) W by rfl)
  have ta1 := fun (W : World) (x : Value) => (show Sem.run Try.prog (Instr.typeAssert (.iface 111 x) 54 94 true) W = .ok (.tuple #[.agg #[.int .i64 0, .int .i64 0, .int .i64 0, .string ⟨#[]⟩], .bool false]) W by rfl)
  have ta2 := fun (W : World) (x : Value) => (show Sem.run Try.prog (Instr.typeAssert (.iface 111 x) 54 97 true) W = .ok (.tuple #[.agg #[.int .i64 0, .int .i64 0], .bool false]) W by rfl)
  have ta3 := fun (W : World) (x : Value) => (show Sem.run Try.prog (Instr.typeAssert (.iface 111 x) 54 99 true) W = .ok (.tuple #[.agg #[.int .i64 0], .bool false]) W by rfl)
  have ta4 := fun (W : World) (x : Value) => (show Sem.run Try.prog (Instr.typeAssert (.iface 111 x) 54 100 true) W = .ok (.tuple #[.agg #[.int .i64 0], .bool false]) W by rfl)
  have ta5 := fun (W : World) (x : Value) => (show Sem.run Try.prog (Instr.typeAssert (.iface 111 x) 54 102 true) W = .ok (.tuple #[.agg #[.int .i64 0, .int .i64 0], .bool false]) W by rfl)
  have ta6 := fun (W : World) (x : Value) => (show Sem.run Try.prog (Instr.typeAssert (.iface 111 x) 54 104 true) W = .ok (.tuple #[.agg #[.int .i64 0], .bool false]) W by rfl)
  have ta7 := fun (W : World) (x : Value) => (show Sem.run Try.prog (Instr.typeAssert (.iface 111 x) 54 106 true) W = .ok (.tuple #[.agg #[.string ⟨#[]⟩], .bool false]) W by rfl)
  have ta8 := fun (W : World) (x : Value) => (show Sem.run Try.prog (Instr.typeAssert (.iface 111 x) 54 82 true) W = .ok (.tuple #[.agg #[.int .i64 0], .bool false]) W by rfl)
  have hs0 := jsz [1] 1 rfl
  go_enter Try.func43, Try.ntmps43
  go_wp2_with fail
  refine (HF.out _).mono ?_
  rintro e w1 ⟨rfl, hb1⟩
  have HB1 := Lib.hid hb1
  clear hb1
  go_wp2_with fail
  refine (ei_any _ [1] _ (ints_at w1 _ 1 [1] rfl rfl (by omega)) (by simp)).mono ?_
  rintro e w2 ⟨rfl, hb2⟩
  have HB2 := Lib.hid (HB1.out.trans (((Below.refl w1.heap.size w1).alloc (Nat.le_refl _) _).trans (hb2.mono (by simp)) |>.mono HB1.out.size))
  clear hb2
  go_wp2_with fail
  go_ret
  exact ⟨rfl, HB2.out⟩

set_option maxRecDepth 100000 in
set_option maxHeartbeats 1000000 in
theorem enb_4 (a b : Int) (w : World) : Calls Try.prog 43 #[.iface 97 (.agg #[.int .i64 a, .int .i64 b])] w (EncPost w (joinS [4] ++ joinS [a, b])) := by
  have HF := Lib.hid (fun W => frame_4 a b W)
  unfold frV at HF
  have hfl := fun (W : World) (x1 x2 x3 x4 x5 : Value) => (show Sem.run Try.prog (Instr.field 25 (.agg #[.int .i64 4, x1, x2, x3, x4, x5]) 0) W = .ok (.int .i64 4) W by rfl)
  have ta0 := fun (W : World) (x : Value) => (show Sem.run Try.prog (Instr.typeAssert (.iface 97 x) 54 80 true) W = .ok (.tuple #[.agg #[.int .i64 0, .slice none 0 0], .bool false]) W by rfl)
  have ta1 := fun (W : World) (x : Value) => (show Sem.run Try.prog (Instr.typeAssert (.iface 97 x) 54 94 true) W = .ok (.tuple #[.agg #[.int .i64 0, .int .i64 0, .int .i64 0, .string ⟨#[]⟩], .bool false]) W by rfl)
  have ta2 := fun (W : World) (x : Value) => (show Sem.run Try.prog (Instr.typeAssert (.iface 97 x) 54 97 true) W = .ok (.tuple #[x, .bool true]) W by rfl)
  have hs1 := jsz [a, b] 2 rfl
  have hs0 := jsz [4] 1 rfl
  go_enter Try.func43, Try.ntmps43
  go_wp2_with fail
  refine (HF.out _).mono ?_
  rintro e w1 ⟨rfl, hb1⟩
  have HB1 := Lib.hid hb1
  clear hb1
  go_wp2_with fail
  refine (ei_any _ [4] _ (ints_at w1 _ 1 [4] rfl rfl (by omega)) (by simp)).mono ?_
  rintro e w2 ⟨rfl, hb2⟩
  have HB2 := Lib.hid (HB1.out.trans (((Below.refl w1.heap.size w1).alloc (Nat.le_refl _) _).trans (hb2.mono (by simp)) |>.mono HB1.out.size))
  clear hb2
  generalize joinS [4] = j0 at *
  have hcat : ¬ 9223372036854775807 < j0.size + (joinS [a, b]).size := by omega
  have HI : Hid (Ints ((w2.alloc (.cells #[.int .i64 a, .int .i64 b] 97)).alloc (.cells #[.int .i64 a, .int .i64 b] 3)) (.slice (some ⟨w2.heap.size + 1, 0, none⟩) 2 2) [a, b]) := Lib.hid (ints_at _ _ 2 [a, b] (by simp) rfl (by omega))
  go_wp2_with fail
  refine (ei_any _ [a, b] _ HI.out (by simp)).mono ?_
  rintro e w3 ⟨rfl, hb3⟩
  have HB3 := Lib.hid (HB2.out.trans ((((Below.refl w2.heap.size w2).alloc (Nat.le_refl _) _).alloc (by simp) _).trans (hb3.mono (by simp; omega)) |>.mono HB2.out.size))
  clear hb3
  go_wp2_with fail
  go_ret
  exact ⟨rfl, HB3.out⟩

set_option maxRecDepth 100000 in
set_option maxHeartbeats 1000000 in
theorem enb_5 (a : Int) (w : World) : Calls Try.prog 43 #[.iface 99 (.agg #[.int .i64 a])] w (EncPost w (joinS [5] ++ joinS [a])) := by
  have HF := Lib.hid (fun W => frame_5 a W)
  unfold frV at HF
  have hfl := fun (W : World) (x1 x2 x3 x4 x5 : Value) => (show Sem.run Try.prog (Instr.field 25 (.agg #[.int .i64 5, x1, x2, x3, x4, x5]) 0) W = .ok (.int .i64 5) W by rfl)
  have ta0 := fun (W : World) (x : Value) => (show Sem.run Try.prog (Instr.typeAssert (.iface 99 x) 54 80 true) W = .ok (.tuple #[.agg #[.int .i64 0, .slice none 0 0], .bool false]) W by rfl)
  have ta1 := fun (W : World) (x : Value) => (show Sem.run Try.prog (Instr.typeAssert (.iface 99 x) 54 94 true) W = .ok (.tuple #[.agg #[.int .i64 0, .int .i64 0, .int .i64 0, .string ⟨#[]⟩], .bool false]) W by rfl)
  have ta2 := fun (W : World) (x : Value) => (show Sem.run Try.prog (Instr.typeAssert (.iface 99 x) 54 97 true) W = .ok (.tuple #[.agg #[.int .i64 0, .int .i64 0], .bool false]) W by rfl)
  have ta3 := fun (W : World) (x : Value) => (show Sem.run Try.prog (Instr.typeAssert (.iface 99 x) 54 99 true) W = .ok (.tuple #[x, .bool true]) W by rfl)
  have hs1 := jsz [a] 1 rfl
  have hs0 := jsz [5] 1 rfl
  go_enter Try.func43, Try.ntmps43
  go_wp2_with fail
  refine (HF.out _).mono ?_
  rintro e w1 ⟨rfl, hb1⟩
  have HB1 := Lib.hid hb1
  clear hb1
  go_wp2_with fail
  refine (ei_any _ [5] _ (ints_at w1 _ 1 [5] rfl rfl (by omega)) (by simp)).mono ?_
  rintro e w2 ⟨rfl, hb2⟩
  have HB2 := Lib.hid (HB1.out.trans (((Below.refl w1.heap.size w1).alloc (Nat.le_refl _) _).trans (hb2.mono (by simp)) |>.mono HB1.out.size))
  clear hb2
  generalize joinS [5] = j0 at *
  have hcat : ¬ 9223372036854775807 < j0.size + (joinS [a]).size := by omega
  have HI : Hid (Ints ((w2.alloc (.cells #[.int .i64 a] 99)).alloc (.cells #[.int .i64 a] 3)) (.slice (some ⟨w2.heap.size + 1, 0, none⟩) 1 1) [a]) := Lib.hid (ints_at _ _ 1 [a] (by simp) rfl (by omega))
  go_wp2_with fail
  refine (ei_any _ [a] _ HI.out (by simp)).mono ?_
  rintro e w3 ⟨rfl, hb3⟩
  have HB3 := Lib.hid (HB2.out.trans ((((Below.refl w2.heap.size w2).alloc (Nat.le_refl _) _).alloc (by simp) _).trans (hb3.mono (by simp; omega)) |>.mono HB2.out.size))
  clear hb3
  go_wp2_with fail
  go_ret
  exact ⟨rfl, HB3.out⟩

set_option maxRecDepth 100000 in
set_option maxHeartbeats 1000000 in
theorem enb_6 (a : Int) (w : World) : Calls Try.prog 43 #[.iface 100 (.agg #[.int .i64 a])] w (EncPost w (joinS [6] ++ joinS [a])) := by
  have HF := Lib.hid (fun W => frame_6 a W)
  unfold frV at HF
  have hfl := fun (W : World) (x1 x2 x3 x4 x5 : Value) => (show Sem.run Try.prog (Instr.field 25 (.agg #[.int .i64 6, x1, x2, x3, x4, x5]) 0) W = .ok (.int .i64 6) W by rfl)
  have ta0 := fun (W : World) (x : Value) => (show Sem.run Try.prog (Instr.typeAssert (.iface 100 x) 54 80 true) W = .ok (.tuple #[.agg #[.int .i64 0, .slice none 0 0], .bool false]) W by rfl)
  have ta1 := fun (W : World) (x : Value) => (show Sem.run Try.prog (Instr.typeAssert (.iface 100 x) 54 94 true) W = .ok (.tuple #[.agg #[.int .i64 0, .int .i64 0, .int .i64 0, .string ⟨#[]⟩], .bool false]) W by rfl)
  have ta2 := fun (W : World) (x : Value) => (show Sem.run Try.prog (Instr.typeAssert (.iface 100 x) 54 97 true) W = .ok (.tuple #[.agg #[.int .i64 0, .int .i64 0], .bool false]) W by rfl)
  have ta3 := fun (W : World) (x : Value) => (show Sem.run Try.prog (Instr.typeAssert (.iface 100 x) 54 99 true) W = .ok (.tuple #[.agg #[.int .i64 0], .bool false]) W by rfl)
  have ta4 := fun (W : World) (x : Value) => (show Sem.run Try.prog (Instr.typeAssert (.iface 100 x) 54 100 true) W = .ok (.tuple #[x, .bool true]) W by rfl)
  have hs1 := jsz [a] 1 rfl
  have hs0 := jsz [6] 1 rfl
  go_enter Try.func43, Try.ntmps43
  go_wp2_with fail
  refine (HF.out _).mono ?_
  rintro e w1 ⟨rfl, hb1⟩
  have HB1 := Lib.hid hb1
  clear hb1
  go_wp2_with fail
  refine (ei_any _ [6] _ (ints_at w1 _ 1 [6] rfl rfl (by omega)) (by simp)).mono ?_
  rintro e w2 ⟨rfl, hb2⟩
  have HB2 := Lib.hid (HB1.out.trans (((Below.refl w1.heap.size w1).alloc (Nat.le_refl _) _).trans (hb2.mono (by simp)) |>.mono HB1.out.size))
  clear hb2
  generalize joinS [6] = j0 at *
  have hcat : ¬ 9223372036854775807 < j0.size + (joinS [a]).size := by omega
  have HI : Hid (Ints ((w2.alloc (.cells #[.int .i64 a] 100)).alloc (.cells #[.int .i64 a] 3)) (.slice (some ⟨w2.heap.size + 1, 0, none⟩) 1 1) [a]) := Lib.hid (ints_at _ _ 1 [a] (by simp) rfl (by omega))
  go_wp2_with fail
  refine (ei_any _ [a] _ HI.out (by simp)).mono ?_
  rintro e w3 ⟨rfl, hb3⟩
  have HB3 := Lib.hid (HB2.out.trans ((((Below.refl w2.heap.size w2).alloc (Nat.le_refl _) _).alloc (by simp) _).trans (hb3.mono (by simp; omega)) |>.mono HB2.out.size))
  clear hb3
  go_wp2_with fail
  go_ret
  exact ⟨rfl, HB3.out⟩

set_option maxRecDepth 100000 in
set_option maxHeartbeats 1000000 in
theorem enb_7 (a b : Int) (w : World) : Calls Try.prog 43 #[.iface 102 (.agg #[.int .i64 a, .int .i64 b])] w (EncPost w (joinS [7] ++ joinS [a, b])) := by
  have HF := Lib.hid (fun W => frame_7 a b W)
  unfold frV at HF
  have hfl := fun (W : World) (x1 x2 x3 x4 x5 : Value) => (show Sem.run Try.prog (Instr.field 25 (.agg #[.int .i64 7, x1, x2, x3, x4, x5]) 0) W = .ok (.int .i64 7) W by rfl)
  have ta0 := fun (W : World) (x : Value) => (show Sem.run Try.prog (Instr.typeAssert (.iface 102 x) 54 80 true) W = .ok (.tuple #[.agg #[.int .i64 0, .slice none 0 0], .bool false]) W by rfl)
  have ta1 := fun (W : World) (x : Value) => (show Sem.run Try.prog (Instr.typeAssert (.iface 102 x) 54 94 true) W = .ok (.tuple #[.agg #[.int .i64 0, .int .i64 0, .int .i64 0, .string ⟨#[]⟩], .bool false]) W by rfl)
  have ta2 := fun (W : World) (x : Value) => (show Sem.run Try.prog (Instr.typeAssert (.iface 102 x) 54 97 true) W = .ok (.tuple #[.agg #[.int .i64 0, .int .i64 0], .bool false]) W by rfl)
  have ta3 := fun (W : World) (x : Value) => (show Sem.run Try.prog (Instr.typeAssert (.iface 102 x) 54 99 true) W = .ok (.tuple #[.agg #[.int .i64 0], .bool false]) W by rfl)
  have ta4 := fun (W : World) (x : Value) => (show Sem.run Try.prog (Instr.typeAssert (.iface 102 x) 54 100 true) W = .ok (.tuple #[.agg #[.int .i64 0], .bool false]) W by rfl)
  have ta5 := fun (W : World) (x : Value) => (show Sem.run Try.prog (Instr.typeAssert (.iface 102 x) 54 102 true) W = .ok (.tuple #[x, .bool true]) W by rfl)
  have hs1 := jsz [a, b] 2 rfl
  have hs0 := jsz [7] 1 rfl
  go_enter Try.func43, Try.ntmps43
  go_wp2_with fail
  refine (HF.out _).mono ?_
  rintro e w1 ⟨rfl, hb1⟩
  have HB1 := Lib.hid hb1
  clear hb1
  go_wp2_with fail
  refine (ei_any _ [7] _ (ints_at w1 _ 1 [7] rfl rfl (by omega)) (by simp)).mono ?_
  rintro e w2 ⟨rfl, hb2⟩
  have HB2 := Lib.hid (HB1.out.trans (((Below.refl w1.heap.size w1).alloc (Nat.le_refl _) _).trans (hb2.mono (by simp)) |>.mono HB1.out.size))
  clear hb2
  generalize joinS [7] = j0 at *
  have hcat : ¬ 9223372036854775807 < j0.size + (joinS [a, b]).size := by omega
  have HI : Hid (Ints ((w2.alloc (.cells #[.int .i64 a, .int .i64 b] 102)).alloc (.cells #[.int .i64 a, .int .i64 b] 3)) (.slice (some ⟨w2.heap.size + 1, 0, none⟩) 2 2) [a, b]) := Lib.hid (ints_at _ _ 2 [a, b] (by simp) rfl (by omega))
  go_wp2_with fail
  refine (ei_any _ [a, b] _ HI.out (by simp)).mono ?_
  rintro e w3 ⟨rfl, hb3⟩
  have HB3 := Lib.hid (HB2.out.trans ((((Below.refl w2.heap.size w2).alloc (Nat.le_refl _) _).alloc (by simp) _).trans (hb3.mono (by simp; omega)) |>.mono HB2.out.size))
  clear hb3
  go_wp2_with fail
  go_ret
  exact ⟨rfl, HB3.out⟩

set_option maxRecDepth 100000 in
set_option maxHeartbeats 1000000 in
theorem enb_8 (a : Int) (w : World) : Calls Try.prog 43 #[.iface 104 (.agg #[.int .i64 a])] w (EncPost w (joinS [8] ++ joinS [a])) := by
  have HF := Lib.hid (fun W => frame_8 a W)
  unfold frV at HF
  have hfl := fun (W : World) (x1 x2 x3 x4 x5 : Value) => (show Sem.run Try.prog (Instr.field 25 (.agg #[.int .i64 8, x1, x2, x3, x4, x5]) 0) W = .ok (.int .i64 8) W by rfl)
  have ta0 := fun (W : World) (x : Value) => (show Sem.run Try.prog (Instr.typeAssert (.iface 104 x) 54 80 true) W = .ok (.tuple #[.agg #[.int .i64 0, .slice none 0 0], .bool false]) W by rfl)
  have ta1 := fun (W : World) (x : Value) => (show Sem.run Try.prog (Instr.typeAssert (.iface 104 x) 54 94 true) W = .ok (.tuple #[.agg #[.int .i64 0, .int .i64 0, .int .i64 0, .string ⟨#[]⟩], .bool false]) W by rfl)
  have ta2 := fun (W : World) (x : Value) => (show Sem.run Try.prog (Instr.typeAssert (.iface 104 x) 54 97 true) W = .ok (.tuple #[.agg #[.int .i64 0, .int .i64 0], .bool false]) W by rfl)
  have ta3 := fun (W : World) (x : Value) => (show Sem.run Try.prog (Instr.typeAssert (.iface 104 x) 54 99 true) W = .ok (.tuple #[.agg #[.int .i64 0], .bool false]) W by rfl)
  have ta4 := fun (W : World) (x : Value) => (show Sem.run Try.prog (Instr.typeAssert (.iface 104 x) 54 100 true) W = .ok (.tuple #[.agg #[.int .i64 0], .bool false]) W by rfl)
  have ta5 := fun (W : World) (x : Value) => (show Sem.run Try.prog (Instr.typeAssert (.iface 104 x) 54 102 true) W = .ok (.tuple #[.agg #[.int .i64 0, .int .i64 0], .bool false]) W by rfl)
  have ta6 := fun (W : World) (x : Value) => (show Sem.run Try.prog (Instr.typeAssert (.iface 104 x) 54 104 true) W = .ok (.tuple #[x, .bool true]) W by rfl)
  have hs1 := jsz [a] 1 rfl
  have hs0 := jsz [8] 1 rfl
  go_enter Try.func43, Try.ntmps43
  go_wp2_with fail
  refine (HF.out _).mono ?_
  rintro e w1 ⟨rfl, hb1⟩
  have HB1 := Lib.hid hb1
  clear hb1
  go_wp2_with fail
  refine (ei_any _ [8] _ (ints_at w1 _ 1 [8] rfl rfl (by omega)) (by simp)).mono ?_
  rintro e w2 ⟨rfl, hb2⟩
  have HB2 := Lib.hid (HB1.out.trans (((Below.refl w1.heap.size w1).alloc (Nat.le_refl _) _).trans (hb2.mono (by simp)) |>.mono HB1.out.size))
  clear hb2
  generalize joinS [8] = j0 at *
  have hcat : ¬ 9223372036854775807 < j0.size + (joinS [a]).size := by omega
  have HI : Hid (Ints ((w2.alloc (.cells #[.int .i64 a] 104)).alloc (.cells #[.int .i64 a] 3)) (.slice (some ⟨w2.heap.size + 1, 0, none⟩) 1 1) [a]) := Lib.hid (ints_at _ _ 1 [a] (by simp) rfl (by omega))
  go_wp2_with fail
  refine (ei_any _ [a] _ HI.out (by simp)).mono ?_
  rintro e w3 ⟨rfl, hb3⟩
  have HB3 := Lib.hid (HB2.out.trans ((((Below.refl w2.heap.size w2).alloc (Nat.le_refl _) _).alloc (by simp) _).trans (hb3.mono (by simp; omega)) |>.mono HB2.out.size))
  clear hb3
  go_wp2_with fail
  go_ret
  exact ⟨rfl, HB3.out⟩

set_option maxRecDepth 100000 in
set_option maxHeartbeats 1000000 in
theorem enb_9 (d : ByteArray) (w : World) (hd : d.size ≤ 2097152) : Calls Try.prog 43 #[.iface 106 (.agg #[.string d])] w (EncPost w (joinS [9] ++ (joinS [(d.size : Int)] ++ d))) := by
  have HF := Lib.hid (fun W => frame_9 d W)
  unfold frV at HF
  have hfl := fun (W : World) (x1 x2 x3 x4 x5 : Value) => (show Sem.run Try.prog (Instr.field 25 (.agg #[.int .i64 9, x1, x2, x3, x4, x5]) 0) W = .ok (.int .i64 9) W by rfl)
  have ta0 := fun (W : World) (x : Value) => (show Sem.run Try.prog (Instr.typeAssert (.iface 106 x) 54 80 true) W = .ok (.tuple #[.agg #[.int .i64 0, .slice none 0 0], .bool false]) W by rfl)
  have ta1 := fun (W : World) (x : Value) => (show Sem.run Try.prog (Instr.typeAssert (.iface 106 x) 54 94 true) W = .ok (.tuple #[.agg #[.int .i64 0, .int .i64 0, .int .i64 0, .string ⟨#[]⟩], .bool false]) W by rfl)
  have ta2 := fun (W : World) (x : Value) => (show Sem.run Try.prog (Instr.typeAssert (.iface 106 x) 54 97 true) W = .ok (.tuple #[.agg #[.int .i64 0, .int .i64 0], .bool false]) W by rfl)
  have ta3 := fun (W : World) (x : Value) => (show Sem.run Try.prog (Instr.typeAssert (.iface 106 x) 54 99 true) W = .ok (.tuple #[.agg #[.int .i64 0], .bool false]) W by rfl)
  have ta4 := fun (W : World) (x : Value) => (show Sem.run Try.prog (Instr.typeAssert (.iface 106 x) 54 100 true) W = .ok (.tuple #[.agg #[.int .i64 0], .bool false]) W by rfl)
  have ta5 := fun (W : World) (x : Value) => (show Sem.run Try.prog (Instr.typeAssert (.iface 106 x) 54 102 true) W = .ok (.tuple #[.agg #[.int .i64 0, .int .i64 0], .bool false]) W by rfl)
  have ta6 := fun (W : World) (x : Value) => (show Sem.run Try.prog (Instr.typeAssert (.iface 106 x) 54 104 true) W = .ok (.tuple #[.agg #[.int .i64 0], .bool false]) W by rfl)
  have ta7 := fun (W : World) (x : Value) => (show Sem.run Try.prog (Instr.typeAssert (.iface 106 x) 54 106 true) W = .ok (.tuple #[x, .bool true]) W by rfl)
  have hs1 := jsz [(d.size : Int)] 1 rfl
  have hs0 := jsz [9] 1 rfl
  go_enter Try.func43, Try.ntmps43
  go_wp2_with fail
  refine (HF.out _).mono ?_
  rintro e w1 ⟨rfl, hb1⟩
  have HB1 := Lib.hid hb1
  clear hb1
  go_wp2_with fail
  refine (ei_any _ [9] _ (ints_at w1 _ 1 [9] rfl rfl (by omega)) (by simp)).mono ?_
  rintro e w2 ⟨rfl, hb2⟩
  have HB2 := Lib.hid (HB1.out.trans (((Below.refl w1.heap.size w1).alloc (Nat.le_refl _) _).trans (hb2.mono (by simp)) |>.mono HB1.out.size))
  clear hb2
  generalize joinS [9] = j0 at *
  have hcat : ¬ 9223372036854775807 < j0.size + (joinS [(d.size : Int)] ++ d).size := by rw [size_app]; omega
  have HD := Lib.hid (fun W => ed_any d W hd)
  generalize joinS [(d.size : Int)] ++ d = jd at *
  go_wp2_with fail
  refine (HD.out _).mono ?_
  rintro e w3 ⟨rfl, hb3⟩
  have HB3 := Lib.hid (HB2.out.trans (((Below.refl w2.heap.size w2).alloc (Nat.le_refl _) _).trans (hb3.mono (by simp)) |>.mono HB2.out.size))
  clear hb3
  go_wp2_with fail
  go_ret
  exact ⟨rfl, HB3.out⟩

set_option maxRecDepth 100000 in
set_option maxHeartbeats 1000000 in
theorem enb_10 (a : Int) (w : World) : Calls Try.prog 43 #[.iface 82 (.agg #[.int .i64 a])] w (EncPost w (joinS [10] ++ joinS [a])) := by
  have HF := Lib.hid (fun W => frame_10 a W)
  unfold frV at HF
  have hfl := fun (W : World) (x1 x2 x3 x4 x5 : Value) => (show Sem.run Try.prog (Instr.field 25 (.agg #[.int .i64 10, x1, x2, x3, x4, x5]) 0) W = .ok (.int .i64 10) W by rfl)
  have ta0 := fun (W : World) (x : Value) => (show Sem.run Try.prog (Instr.typeAssert (.iface 82 x) 54 80 true) W = .ok (.tuple #[.agg #[.int .i64 0, .slice none 0 0], .bool false]) W by rfl)
  have ta1 := fun (W : World) (x : Value) => (show Sem.run Try.prog (Instr.typeAssert (.iface 82 x) 54 94 true) W = .ok (.tuple #[.agg #[.int .i64 0, .int .i64 0, .int .i64 0, .string ⟨#[]⟩], .bool false]) W by rfl)
  have ta2 := fun (W : World) (x : Value) => (show Sem.run Try.prog (Instr.typeAssert (.iface 82 x) 54 97 true) W = .ok (.tuple #[.agg #[.int .i64 0, .int .i64 0], .bool false]) W by rfl)
  have ta3 := fun (W : World) (x : Value) => (show Sem.run Try.prog (Instr.typeAssert (.iface 82 x) 54 99 true) W = .ok (.tuple #[.agg #[.int .i64 0], .bool false]) W by rfl)
  have ta4 := fun (W : World) (x : Value) => (show Sem.run Try.prog (Instr.typeAssert (.iface 82 x) 54 100 true) W = .ok (.tuple #[.agg #[.int .i64 0], .bool false]) W by rfl)
  have ta5 := fun (W : World) (x : Value) => (show Sem.run Try.prog (Instr.typeAssert (.iface 82 x) 54 102 true) W = .ok (.tuple #[.agg #[.int .i64 0, .int .i64 0], .bool false]) W by rfl)
  have ta6 := fun (W : World) (x : Value) => (show Sem.run Try.prog (Instr.typeAssert (.iface 82 x) 54 104 true) W = .ok (.tuple #[.agg #[.int .i64 0], .bool false]) W by rfl)
  have ta7 := fun (W : World) (x : Value) => (show Sem.run Try.prog (Instr.typeAssert (.iface 82 x) 54 106 true) W = .ok (.tuple #[.agg #[.string ⟨#[]⟩], .bool false]) W by rfl)
  have ta8 := fun (W : World) (x : Value) => (show Sem.run Try.prog (Instr.typeAssert (.iface 82 x) 54 82 true) W = .ok (.tuple #[x, .bool true]) W by rfl)
  have hs1 := jsz [a] 1 rfl
  have hs0 := jsz [10] 1 rfl
  go_enter Try.func43, Try.ntmps43
  go_wp2_with fail
  refine (HF.out _).mono ?_
  rintro e w1 ⟨rfl, hb1⟩
  have HB1 := Lib.hid hb1
  clear hb1
  go_wp2_with fail
  refine (ei_any _ [10] _ (ints_at w1 _ 1 [10] rfl rfl (by omega)) (by simp)).mono ?_
  rintro e w2 ⟨rfl, hb2⟩
  have HB2 := Lib.hid (HB1.out.trans (((Below.refl w1.heap.size w1).alloc (Nat.le_refl _) _).trans (hb2.mono (by simp)) |>.mono HB1.out.size))
  clear hb2
  generalize joinS [10] = j0 at *
  have hcat : ¬ 9223372036854775807 < j0.size + (joinS [a]).size := by omega
  have HI : Hid (Ints ((w2.alloc (.cells #[.int .i64 a] 82)).alloc (.cells #[.int .i64 a] 3)) (.slice (some ⟨w2.heap.size + 1, 0, none⟩) 1 1) [a]) := Lib.hid (ints_at _ _ 1 [a] (by simp) rfl (by omega))
  go_wp2_with fail
  refine (ei_any _ [a] _ HI.out (by simp)).mono ?_
  rintro e w3 ⟨rfl, hb3⟩
  have HB3 := Lib.hid (HB2.out.trans ((((Below.refl w2.heap.size w2).alloc (Nat.le_refl _) _).alloc (by simp) _).trans (hb3.mono (by simp; omega)) |>.mono HB2.out.size))
  clear hb3
  go_wp2_with fail
  go_ret
  exact ⟨rfl, HB3.out⟩


end Go.Proofs.Ythflokonihegbaa
