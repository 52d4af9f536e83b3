/- The program's encodeBody: streams and acknowledgements. -/
import Derived.Test.YthflokonihegbaaIEnb
import Derived.Test.YthflokonihegbaaIMeth
namespace Go.Proofs.Ythflokonihegbaa
open Go.RowKit
set_option linter.unusedVariables false
set_option linter.unusedSimpArgs false

set_option maxRecDepth 100000 in
set_option maxHeartbeats 1000000 in
theorem enb_3 (a b c : Int) (d : ByteArray) (w : World) (hd : d.size ≤ 2097152) : Calls Try.prog 43 #[.iface 94 (.agg #[.int .i64 a, .int .i64 b, .int .i64 c, .string d])] w (EncPost w (joinS [3] ++ joinS [a, b, c] ++ (joinS [(d.size : Int)] ++ d))) := by
  have HF := Lib.hid (fun W => frame_3 a b c d W)
  unfold frV at HF
  have hfl := fun (W : World) (x1 x2 x3 x4 x5 : Value) => (show Sem.run Try.prog (Instr.field 25 (.agg #[.int .i64 3, x1, x2, x3, x4, x5]) 0) W = .ok (.int .i64 3) W by rfl)
  have ta0 := fun (W : World) (x : Value) => (show Sem.run Try.prog (Instr.typeAssert (.iface 94 x) 54 80 true) W = .ok (.tuple #[.agg #[.int .i64 0, .slice none 0 0], .bool false]) W by rfl)
  have ta1 := fun (W : World) (x : Value) => (show Sem.run Try.prog (Instr.typeAssert (.iface 94 x) 54 94 true) W = .ok (.tuple #[x, .bool true]) W by rfl)
  have hs1 := jsz [a, b, c] 3 rfl
  have hs0 := jsz [3] 1 rfl
  go_enter Try.func43, Try.ntmps43
  go_wp2_with fail
  refine (HF.out _).mono ?_
  rintro e w1 ⟨rfl, hb1⟩
  have HB1 := Lib.hid hb1
  clear hb1
  go_wp2_with fail
  refine (ei_any _ [3] _ (ints_at w1 _ 1 [3] rfl rfl (by omega)) (by simp)).mono ?_
  rintro e w2 ⟨rfl, hb2⟩
  have HB2 := Lib.hid (HB1.out.trans (((Below.refl w1.heap.size w1).alloc (Nat.le_refl _) _).trans (hb2.mono (by simp)) |>.mono HB1.out.size))
  clear hb2
  have PW : Hid ((w2.alloc (.cells #[.int .i64 a, .int .i64 b, .int .i64 c, .string d] 94)).cell? ⟨w2.heap.size, 0, none⟩ = some (.int .i64 a) ∧ (w2.alloc (.cells #[.int .i64 a, .int .i64 b, .int .i64 c, .string d] 94)).cell? ⟨w2.heap.size, 1, none⟩ = some (.int .i64 b) ∧ (w2.alloc (.cells #[.int .i64 a, .int .i64 b, .int .i64 c, .string d] 94)).cell? ⟨w2.heap.size, 2, none⟩ = some (.int .i64 c) ∧ (w2.alloc (.cells #[.int .i64 a, .int .i64 b, .int .i64 c, .string d] 94)).cell? ⟨w2.heap.size, 3, none⟩ = some (.string d)) := Lib.hid (by
    have h := cell_lit w2 94 [.int .i64 a, .int .i64 b, .int .i64 c, .string d]
    exact ⟨h 0, h 1, h 2, h 3⟩)
  have BW : Hid (Below w2.heap.size w2 (w2.alloc (.cells #[.int .i64 a, .int .i64 b, .int .i64 c, .string d] 94))) := Lib.hid ((Below.refl _ _).alloc (Nat.le_refl _) _)
  have SW : Hid (w2.heap.size < (w2.alloc (.cells #[.int .i64 a, .int .i64 b, .int .i64 c, .string d] 94)).heap.size) := Lib.hid (by simp)
  have hs2 := jsz [(d.size : Int)] 1 rfl
  generalize joinS [3] = j0 at *
  have hcat1 : ¬ 9223372036854775807 < j0.size + (joinS [a, b, c]).size := by omega
  have hcat2 : ¬ 9223372036854775807 < (j0 ++ joinS [a, b, c]).size + (joinS [(d.size : Int)] ++ d).size := by rw [size_app, size_app]; omega
  have hcat3 : ¬ 9223372036854775807 < j0.size + (joinS [a, b, c]).size + (joinS [(d.size : Int)] ++ d).size := by rw [size_app]; omega
  have HD := Lib.hid (fun W => ed_any d W hd)
  generalize joinS [(d.size : Int)] ++ d = jd at *
  go_wp2_with fail
  generalize w2.alloc (.cells #[.int .i64 a, .int .i64 b, .int .i64 c, .string d] 94) = W at *
  have D0 : Hid (W.drew.cell? ⟨w2.heap.size, 0, none⟩ = some (.int .i64 a) ∧ W.drew.cell? ⟨w2.heap.size, 1, none⟩ = some (.int .i64 b) ∧ W.drew.cell? ⟨w2.heap.size, 2, none⟩ = some (.int .i64 c) ∧ W.drew.cell? ⟨w2.heap.size, 3, none⟩ = some (.string d)) := Lib.hid PW.out
  have KAL : Hid (∀ o, (W.drew.alloc o).cell? ⟨w2.heap.size, 0, none⟩ = some (.int .i64 a) ∧ (W.drew.alloc o).cell? ⟨w2.heap.size, 1, none⟩ = some (.int .i64 b) ∧ (W.drew.alloc o).cell? ⟨w2.heap.size, 2, none⟩ = some (.int .i64 c) ∧ (W.drew.alloc o).cell? ⟨w2.heap.size, 3, none⟩ = some (.string d)) := Lib.hid (fun o => by
    have hb : Below W.drew.heap.size W.drew (W.drew.alloc o) := (Below.refl _ _).alloc (Nat.le_refl _) _
    obtain ⟨q0, q1, q2, q3⟩ := D0.out
    exact ⟨(hb.cell (p := ⟨w2.heap.size, 0, none⟩) SW.out).trans q0, (hb.cell (p := ⟨w2.heap.size, 1, none⟩) SW.out).trans q1, (hb.cell (p := ⟨w2.heap.size, 2, none⟩) SW.out).trans q2, (hb.cell (p := ⟨w2.heap.size, 3, none⟩) SW.out).trans q3⟩)
  have HI : Hid (Ints (W.drew.alloc (.cells #[.int .i64 a, .int .i64 b, .int .i64 c] 3)) (.slice (some ⟨W.heap.size, 0, none⟩) 3 3) [a, b, c]) := Lib.hid (ints_at W.drew _ 3 [a, b, c] rfl rfl (by omega))
  obtain ⟨p0, p1, p2, p3⟩ := PW.out
  go_region_held3 (fun w' => w'.cell? ⟨w2.heap.size, 0, none⟩ = some (.int .i64 a) ∧ w'.cell? ⟨w2.heap.size, 1, none⟩ = some (.int .i64 b) ∧ w'.cell? ⟨w2.heap.size, 2, none⟩ = some (.int .i64 c) ∧ w'.cell? ⟨w2.heap.size, 3, none⟩ = some (.string d)) (first | assumption | exact D0.out | exact KAL.out _ | exact k3 | exact k4)
    (first
      | (go_at_call 62; refine (ei_any _ [a, b, c] _ HI.out (by simp)).mono ?_; rintro e w3 ⟨rfl, hb3⟩; have hbw3 : Below W.drew.heap.size W.drew w3 := (((Below.refl W.drew.heap.size W.drew).alloc (Nat.le_refl _) _).trans (hb3.mono (by simp))); have k3 : w3.cell? ⟨w2.heap.size, 0, none⟩ = some (.int .i64 a) ∧ w3.cell? ⟨w2.heap.size, 1, none⟩ = some (.int .i64 b) ∧ w3.cell? ⟨w2.heap.size, 2, none⟩ = some (.int .i64 c) ∧ w3.cell? ⟨w2.heap.size, 3, none⟩ = some (.string d) := ⟨(hbw3.cell (p := ⟨w2.heap.size, 0, none⟩) SW.out).trans p0, (hbw3.cell (p := ⟨w2.heap.size, 1, none⟩) SW.out).trans p1, (hbw3.cell (p := ⟨w2.heap.size, 2, none⟩) SW.out).trans p2, (hbw3.cell (p := ⟨w2.heap.size, 3, none⟩) SW.out).trans p3⟩)
      | (go_at_call 64; refine (HD.out _).mono ?_; rintro e w4 ⟨rfl, hb4⟩; have k4 : w4.cell? ⟨w2.heap.size, 0, none⟩ = some (.int .i64 a) ∧ w4.cell? ⟨w2.heap.size, 1, none⟩ = some (.int .i64 b) ∧ w4.cell? ⟨w2.heap.size, 2, none⟩ = some (.int .i64 c) ∧ w4.cell? ⟨w2.heap.size, 3, none⟩ = some (.string d) := ⟨(hb4.cell (p := ⟨w2.heap.size, 0, none⟩) (Nat.lt_of_lt_of_le SW.out hbw3.size)).trans k3.1, (hb4.cell (p := ⟨w2.heap.size, 1, none⟩) (Nat.lt_of_lt_of_le SW.out hbw3.size)).trans k3.2.1, (hb4.cell (p := ⟨w2.heap.size, 2, none⟩) (Nat.lt_of_lt_of_le SW.out hbw3.size)).trans k3.2.2.1, (hb4.cell (p := ⟨w2.heap.size, 3, none⟩) (Nat.lt_of_lt_of_le SW.out hbw3.size)).trans k3.2.2.2⟩))
  have HB4 := Lib.hid (HB2.out.trans (((BW.out.drew.trans ((hbw3.trans (hb4.mono hbw3.size)).mono BW.out.drew.size))).mono HB2.out.size))
  clear hb3 hb4 k3 k4 hbw3
  go_wp2_with fail
  go_ret
  exact ⟨rfl, HB4.out⟩

set_option maxRecDepth 100000 in
set_option maxHeartbeats 1000000 in
theorem enb_2 (a : Int) (ra : Option Addr) (rc : Nat) (rs : List (Int × Int)) (w : World) (HR : Hid (Rngs w (.slice ra rs.length rc) rs)) (hr16 : rs.length ≤ 16) (HM : Hid (∀ r ∈ rs, 0 ≤ r.1 ∧ r.1 ≤ r.2 ∧ r.2 ≤ 999)) : Calls Try.prog 43 #[.iface 80 (.agg #[.int .i64 a, .slice ra rs.length rc])] w (EncPost w (joinS [2] ++ joinS [a] ++ joinS ((rs.length : Int) :: deltas (-2) rs))) := by
  have HF := Lib.hid (fun W => frame_2 a ra rs.length rc W)
  unfold frV at HF
  have hfl := fun (W : World) (x1 x2 x3 x4 x5 : Value) => (show Sem.run Try.prog (Instr.field 25 (.agg #[.int .i64 2, x1, x2, x3, x4, x5]) 0) W = .ok (.int .i64 2) W by rfl)
  have ta0 := fun (W : World) (x : Value) => (show Sem.run Try.prog (Instr.typeAssert (.iface 80 x) 54 80 true) W = .ok (.tuple #[x, .bool true]) W by rfl)
  have hs1 := jsz [a] 1 rfl
  have hs0 := jsz [2] 1 rfl
  go_enter Try.func43, Try.ntmps43
  go_wp2_with fail
  refine (HF.out _).mono ?_
  rintro e w1 ⟨rfl, hb1⟩
  have HB1 := Lib.hid hb1
  clear hb1
  go_wp2_with fail
  refine (ei_any _ [2] _ (ints_at w1 _ 1 [2] rfl rfl (by omega)) (by simp)).mono ?_
  rintro e w2 ⟨rfl, hb2⟩
  have HB2 := Lib.hid (HB1.out.trans (((Below.refl w1.heap.size w1).alloc (Nat.le_refl _) _).trans (hb2.mono (by simp)) |>.mono HB1.out.size))
  clear hb2
  have PW : Hid ((w2.alloc (.cells #[.int .i64 a, .slice ra rs.length rc] 80)).cell? ⟨w2.heap.size, 0, none⟩ = some (.int .i64 a) ∧ (w2.alloc (.cells #[.int .i64 a, .slice ra rs.length rc] 80)).cell? ⟨w2.heap.size, 1, none⟩ = some (.slice ra rs.length rc)) := Lib.hid (by
    have h := cell_lit w2 80 [.int .i64 a, .slice ra rs.length rc]
    exact ⟨h 0, h 1⟩)
  have BW : Hid (Below w2.heap.size w2 (w2.alloc (.cells #[.int .i64 a, .slice ra rs.length rc] 80))) := Lib.hid ((Below.refl _ _).alloc (Nat.le_refl _) _)
  have SW : Hid (w2.heap.size < (w2.alloc (.cells #[.int .i64 a, .slice ra rs.length rc] 80)).heap.size) := Lib.hid (by simp)
  have hs2 := jsz ((rs.length : Int) :: deltas (-2) rs) (2 * rs.length + 1) (by rw [List.length_cons, deltas_len])
  generalize joinS [2] = j0 at *
  have hcat1 : ¬ 9223372036854775807 < j0.size + (joinS [a]).size := by omega
  have hcat2 : ¬ 9223372036854775807 < (j0 ++ joinS [a]).size + (joinS ((rs.length : Int) :: deltas (-2) rs)).size := by rw [size_app]; omega
  have hcat3 : ¬ 9223372036854775807 < j0.size + (joinS [a]).size + (joinS ((rs.length : Int) :: deltas (-2) rs)).size := by omega
  have HD := Lib.hid (fun W h => er_any (.slice ra rs.length rc) rs W h hr16 HM.out)
  generalize joinS ((rs.length : Int) :: deltas (-2) rs) = jd at *
  have HR2 : Hid (Rngs (w2.alloc (.cells #[.int .i64 a, .slice ra rs.length rc] 80)).drew (.slice ra rs.length rc) rs) := Lib.hid (HR.out.below (HB2.out.trans (BW.out.drew.mono HB2.out.size)))
  go_wp2_with fail
  generalize w2.alloc (.cells #[.int .i64 a, .slice ra rs.length rc] 80) = W at *
  have D0 : Hid (W.drew.cell? ⟨w2.heap.size, 0, none⟩ = some (.int .i64 a) ∧ W.drew.cell? ⟨w2.heap.size, 1, none⟩ = some (.slice ra rs.length rc)) := Lib.hid PW.out
  have KAL : Hid (∀ o, (W.drew.alloc o).cell? ⟨w2.heap.size, 0, none⟩ = some (.int .i64 a) ∧ (W.drew.alloc o).cell? ⟨w2.heap.size, 1, none⟩ = some (.slice ra rs.length rc)) := Lib.hid (fun o => by
    have hb : Below W.drew.heap.size W.drew (W.drew.alloc o) := (Below.refl _ _).alloc (Nat.le_refl _) _
    obtain ⟨q0, q1⟩ := D0.out
    exact ⟨(hb.cell (p := ⟨w2.heap.size, 0, none⟩) SW.out).trans q0, (hb.cell (p := ⟨w2.heap.size, 1, none⟩) SW.out).trans q1⟩)
  have HI : Hid (Ints (W.drew.alloc (.cells #[.int .i64 a] 3)) (.slice (some ⟨W.heap.size, 0, none⟩) 1 1) [a]) := Lib.hid (ints_at W.drew _ 1 [a] rfl rfl (by omega))
  obtain ⟨p0, p1⟩ := PW.out
  go_region_held3 (fun w' => w'.cell? ⟨w2.heap.size, 0, none⟩ = some (.int .i64 a) ∧ w'.cell? ⟨w2.heap.size, 1, none⟩ = some (.slice ra rs.length rc)) (first | assumption | exact D0.out | exact KAL.out _ | exact k3 | exact k4)
    (first
      | (go_at_call 62; refine (ei_any _ [a] _ HI.out (by simp)).mono ?_; rintro e w3 ⟨rfl, hb3⟩; have hbw3 : Below W.drew.heap.size W.drew w3 := (((Below.refl W.drew.heap.size W.drew).alloc (Nat.le_refl _) _).trans (hb3.mono (by simp))); have k3 : w3.cell? ⟨w2.heap.size, 0, none⟩ = some (.int .i64 a) ∧ w3.cell? ⟨w2.heap.size, 1, none⟩ = some (.slice ra rs.length rc) := ⟨(hbw3.cell (p := ⟨w2.heap.size, 0, none⟩) SW.out).trans p0, (hbw3.cell (p := ⟨w2.heap.size, 1, none⟩) SW.out).trans p1⟩)
      | (go_at_call 63; refine (HD.out _ (HR2.out.below (hbw3.mono (Nat.le_refl _)))).mono ?_; rintro e w4 ⟨rfl, hb4⟩; have k4 : w4.cell? ⟨w2.heap.size, 0, none⟩ = some (.int .i64 a) ∧ w4.cell? ⟨w2.heap.size, 1, none⟩ = some (.slice ra rs.length rc) := ⟨(hb4.cell (p := ⟨w2.heap.size, 0, none⟩) (Nat.lt_of_lt_of_le SW.out hbw3.size)).trans k3.1, (hb4.cell (p := ⟨w2.heap.size, 1, none⟩) (Nat.lt_of_lt_of_le SW.out hbw3.size)).trans k3.2⟩))
  have HB4 := Lib.hid (HB2.out.trans (((BW.out.drew.trans ((hbw3.trans (hb4.mono hbw3.size)).mono BW.out.drew.size))).mono HB2.out.size))
  clear hb3 hb4 k3 k4 hbw3
  go_wp2_with fail
  go_ret
  exact ⟨rfl, HB4.out⟩


end Go.Proofs.Ythflokonihegbaa
