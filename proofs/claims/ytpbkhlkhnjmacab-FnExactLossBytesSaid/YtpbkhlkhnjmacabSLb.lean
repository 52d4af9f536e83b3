/- The model's LossBytes. -/
import Derived.Test.YtpbkhlkhnjmacabSLv
import Derived.Test.YtpbkhlkhnjmacabLsMath
namespace Go.Proofs.Ytpbkhlkhnjmacab
open Go.RowKit
set_option linter.unusedVariables false
set_option linter.unusedSimpArgs false

set_option maxRecDepth 100000 in
set_option maxHeartbeats 4000000 in
theorem slbytes_any (n g : Int) (v : Value) (l : List Pk) (w : World) (hs : Pks w v l) (hl : l.length ≤ 1048576) : Calls Try.prog 31 #[.agg #[.int .i64 n, v, .int .i64 g]] w fun e w' => e = .returned (.int .i64 (lbytesv (n, l, g))) ∧ Below w.heap.size w w' := by
  have HS := Lib.hid hs
  obtain ⟨a, c, rfl, hcc, hs⟩ := hs
  have HC := Lib.hid hs
  clear hs hcc
  have X := Lib.hid (C3.new w (.int .i64 n) (.slice a l.length c) (.int .i64 g) 24)
  have B := Lib.hid ((Below.refl w.heap.size w).alloc (Nat.le_refl _) (.cells #[.int .i64 n, .slice a l.length c, .int .i64 g] 24))
  have HV := Lib.hid (fun W (b : Below w.heap.size w W) => slval_any n g _ l W (HS.out.below b) hl)
  obtain ⟨x0, x1, x2⟩ := X.out
  by_cases hv : lok (n, l, g)
  case neg =>
    have HD := Lib.hid (decide_eq_false hv)
    have HF := Lib.hid (lbytesv_no hv)
    clear hv
    go_enter Try.func31, Try.ntmps31
    go_wp2_with fail
    refine (HV.out _ B.out).mono ?_
    rw [HD.out]
    rintro e w1 ⟨rfl, hb1⟩
    have B1 := Lib.hid (B.out.trans (hb1.mono B.out.size))
    clear hb1
    go_wp2_with fail
    go_ret
    exact ⟨ret_int HF.out.symm, B1.out⟩
  have HD := Lib.hid (decide_eq_true hv)
  have HF := Lib.hid (lbytesv_yes hv)
  have HK := Lib.hid (lbytes_tk hv)
  have hl12 : l.length ≤ 12 := hv.2.2.1
  clear hv
  go_enter Try.func31, Try.ntmps31
  go_wp2_with fail
  refine (HV.out _ B.out).mono ?_
  rw [HD.out]
  rintro e w1 ⟨rfl, hb1⟩
  have X1 := Lib.hid (X.out.below hb1)
  have B1 := Lib.hid (B.out.trans (hb1.mono B.out.size))
  clear hb1 x0 x1 x2
  go_wp2_with fail
  go_loopw [3, 4] (fun nv iv wr => ∃ j : Nat, j ≤ l.length ∧ iv = .int .i64 (j : Int) ∧ nv = .int .i64 (lbytes (l.take j)) ∧ Hid (Below w.heap.size w wr) ∧ Hid (C3 wr w.heap.size (.int .i64 n) (.slice a l.length c) (.int .i64 g))) (fun _ iv _ => l.length - (intOf iv).toNat)
  case atStart => exact ⟨0, Nat.zero_le _, rfl, rfl, B1, X1⟩
  case round =>
    obtain ⟨j, hj, rfl, rfl, HB, HR⟩ := hrel
    obtain ⟨r0, r1, r2⟩ := HR.out
    by_cases hlt : j < l.length
    · have hlt' : (j : Int) < (l.length : Int) := by omega
      obtain ⟨gb, o, rfl, hc⟩ := HC.out (by rintro rfl; simp at hlt)
      obtain ⟨d0, d1, d2⟩ := hc j hlt
      have hg := World.block_lt_of_cell? w _ d0
      have e2 := (HB.out.cell (p := ⟨gb, o + j * 3 + 2, none⟩) hg).trans d2
      have HT := Lib.hid (lbytes_take hlt)
      have k1 := HK.out j
      have k2 := HK.out (j + 1)
      rw [lbytes_take hlt] at k2
      obtain ⟨z, hz⟩ : ∃ z, (l.getD j pkD).2.2 = z := ⟨_, rfl⟩
      rw [hz] at e2 HT k2
      obtain ⟨m, hm⟩ : ∃ m, lbytes (l.take j) = m := ⟨_, rfl⟩
      rw [hm] at HT k1 k2 ⊢
      have hw1 : IntKind.i64.wrap (m + z) = m + z := IntWalk.i64_in _ (by omega)
      have hw2 : IntKind.i64.wrap ((j : Int) + 1) = ((j + 1 : Nat) : Int) := by rw [IntWalk.i64_in _ (by omega)]; omega
      clear hz hm d0 d1 d2 hc k1 k2
      go_wp2_with fail
      go_roundw
      case rel => exact ⟨j + 1, hlt, by go_num, by rw [HT.out], HB, HR⟩
      case measure => simp [intOf]; omega
    · have hlt' : ¬ ((j : Int) < (l.length : Int)) := by omega
      have hjl : j = l.length := by omega
      have hd : decide ((j : Int) < (l.length : Int)) = false := decide_eq_false hlt'
      have HE : Hid (lbytes (l.take j) = lbytesv (n, l, g)) := Lib.hid (by rw [HF.out, hjl, List.take_length])
      clear hjl
      go_wp2_with fail
      go_ret
      exact ⟨ret_int HE.out, HB.out⟩

end Go.Proofs.Ytpbkhlkhnjmacab
