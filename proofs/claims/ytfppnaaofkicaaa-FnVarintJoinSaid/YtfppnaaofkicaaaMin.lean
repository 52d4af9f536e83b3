/- Chapter 1: contracts of VarintDecode and VarintMinimal, the program's and the model's. -/
import Derived.Test.YtfppnaaofkicaaaMath
namespace Go.Proofs.Ytfppnaaofkicaaa
open Go.RowKit
set_option linter.unusedVariables false
set_option linter.unusedSimpArgs false

def dok (s : ByteArray) : Bool := decide (0 < dsz s)
def mini (s : ByteArray) : Bool := decide (0 < dsz s ∧ dsz s = s.size ∧ dsz s = vlen (dval s))
theorem toList_inj {a b : ByteArray} : a.toList = b.toList ↔ a = b := by
  rw [_root_.Go.ByteArray.toList_eq, _root_.Go.ByteArray.toList_eq]
  constructor
  · intro h; cases a with | mk a => cases b with | mk b => cases a with | mk a => cases b with | mk b => simp at h; rw [h]
  · rintro rfl; rfl
theorem mini_enc (s : ByteArray) (h : 0 < dsz s) : ((encS (dval s)).toList == s.toList) = mini s := by
  unfold mini
  rw [Bool.eq_iff_iff, beq_iff_eq, toList_inj, enc_dec_iff s h, decide_eq_true_eq]
  exact ⟨fun k => ⟨h, k⟩, fun k => k.2⟩

set_option maxHeartbeats 400000 in
theorem idec_any (s : ByteArray) (w : World) (hs : s.size ≤ maxLen) : Calls Try.prog 14 #[.string s] w fun e w' => e = .returned (.tuple #[.int .i64 (dval s), .int .i64 (dsz s), .bool (dok s)]) ∧ w = w' := by
  go_enter Try.func14, Try.ntmps14
  go_wp2_with (go_at_call 36; refine (rv_any _ _ hs).mono ?_; rintro e w' ⟨rfl, rfl⟩)
  go_ret3
  exact ⟨rfl, rfl⟩
set_option maxHeartbeats 400000 in
theorem sdec_any (s : ByteArray) (w : World) (hs : s.size ≤ maxLen) : Calls Try.prog 19 #[.string s] w fun e w' => e = .returned (.tuple #[.int .i64 (dval s), .int .i64 (dsz s), .bool (dok s)]) ∧ Below w.heap.size w w' := by
  go_enter Try.func19, Try.ntmps19
  go_wp2_with (go_at_call 39; refine (l1d_any _ _ hs).mono ?_; rintro e w' ⟨rfl, hb⟩)
  go_ret3
  exact ⟨rfl, hb⟩

set_option maxHeartbeats 400000 in
theorem imin_any (s : ByteArray) (w : World) (hs : s.size ≤ maxLen) : Calls Try.prog 21 #[.string s] w fun e w' => e = .returned (.bool (mini s)) ∧ w = w' := by
  by_cases h0 : dsz s = 0
  · have hm : mini s = false := decide_eq_false (by omega)
    have hg : decide (0 < dsz s) = false := decide_eq_false (by omega)
    have HM := Lib.hid hm
    clear hm h0
    go_enter Try.func21, Try.ntmps21
    go_wp2_with (go_at_call 36; refine (rv_any _ _ hs).mono ?_; rintro e w' ⟨rfl, rfl⟩)
    go_ret
    exact ⟨ret_bool HM.out.symm, rfl⟩
  · have hp : 0 < dsz s := by have := dsz_cases s; omega
    by_cases h1 : dsz s = s.size
    · have hg : decide (0 < dsz s) = true := decide_eq_true hp
      have hg2 : (dsz s == (s.size : Int)) = true := by rw [beq_iff_eq]; exact h1
      have hm : mini s = (dsz s == vlen (dval s)) := by unfold mini; rw [Bool.eq_iff_iff, decide_eq_true_eq, beq_iff_eq]; omega
      have HM := Lib.hid hm
      clear hm h0 h1
      go_enter Try.func21, Try.ntmps21
      go_wp2_with (first | (go_at_call 36; refine (rv_any _ _ hs).mono ?_; rintro e w' ⟨rfl, rfl⟩) | (go_at_call 37; refine (size_any _ _).mono ?_; rintro e w' ⟨rfl, rfl⟩))
      go_ret
      exact ⟨ret_bool HM.out.symm, rfl⟩
    · have hg : decide (0 < dsz s) = true := decide_eq_true hp
      have hg2 : (dsz s == (s.size : Int)) = false := by rw [beq_eq_false_iff_ne]; exact h1
      have hm : mini s = false := decide_eq_false (by omega)
      have HM := Lib.hid hm
      clear hm h0 h1
      go_enter Try.func21, Try.ntmps21
      go_wp2_with (go_at_call 36; refine (rv_any _ _ hs).mono ?_; rintro e w' ⟨rfl, rfl⟩)
      go_ret
      exact ⟨ret_bool HM.out.symm, rfl⟩

set_option maxHeartbeats 400000 in
theorem smin_any (s : ByteArray) (w : World) (hs : s.size ≤ maxLen) : Calls Try.prog 22 #[.string s] w fun e w' => e = .returned (.bool (mini s)) ∧ Below w.heap.size w w' := by
  by_cases h0 : dsz s = 0
  · have hm : mini s = false := decide_eq_false (by omega)
    have hg : decide (0 < dsz s) = false := decide_eq_false (by omega)
    have HM := Lib.hid hm
    clear hm h0
    go_enter Try.func22, Try.ntmps22
    go_wp2_with (go_at_call 39; refine (l1d_any _ _ hs).mono ?_; rintro e w' ⟨rfl, hb⟩)
    go_ret
    exact ⟨ret_bool HM.out.symm, hb⟩
  · have hp : 0 < dsz s := by have := dsz_cases s; omega
    have hg : decide (0 < dsz s) = true := decide_eq_true hp
    have hm := mini_enc s hp
    have HM := Lib.hid hm
    have hr := dval_range s
    obtain ⟨r0, r1⟩ := hr
    clear hm h0
    go_enter Try.func22, Try.ntmps22
    go_wp2_with (first | (go_at_call 39; refine (l1d_any _ _ hs).mono ?_; rintro e w1 ⟨rfl, hb1⟩) | (go_at_call 35; refine (l1Len_any _ _ r0 r1).mono ?_; rintro e w' ⟨rfl, rfl⟩) | (go_at_call 34; refine (l1b_any _ _ r0 r1).mono ?_; rintro e w2 ⟨rfl, hb2⟩))
    go_ret
    exact ⟨ret_bool HM.out, hb1.trans (hb2.mono hb1.size)⟩

end Go.Proofs.Ytfppnaaofkicaaa
