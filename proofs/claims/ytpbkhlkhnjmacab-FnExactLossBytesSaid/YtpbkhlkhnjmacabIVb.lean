/- The program's LossBytes. -/
import Derived.Test.YtpbkhlkhnjmacabIVm
import Derived.Test.YtpbkhlkhnjmacabIFo
import Derived.Test.YtpbkhlkhnjmacabIFp
import Derived.Test.YtpbkhlkhnjmacabLsMath
namespace Go.Proofs.Ytpbkhlkhnjmacab
open Go.RowKit
set_option linter.unusedVariables false
set_option linter.unusedSimpArgs false

set_option maxRecDepth 100000 in
set_option maxHeartbeats 4000000 in
theorem ilbytes_any (n g : Int) (v : Value) (l : List Pk) (w : World) (hs : Pks w v l) (hl : l.length ≤ 1048576) : Calls Try.prog 32 #[.agg #[.int .i64 n, v, .int .i64 g]] w fun e w' => e = .returned (.int .i64 (lbytesv (n, l, g))) ∧ Below w.heap.size w w' := by
  have HS := Lib.hid hs
  obtain ⟨a, c, rfl, hcc, hs⟩ := hs
  clear hs hcc
  have X := Lib.hid (C3.new w (.int .i64 n) (.slice a l.length c) (.int .i64 g) 24)
  have B := Lib.hid ((Below.refl w.heap.size w).alloc (Nat.le_refl _) (.cells #[.int .i64 n, .slice a l.length c, .int .i64 g] 24))
  have HV := Lib.hid (ilval_any n g _ l _ (HS.out.below B.out) hl)
  obtain ⟨x0, x1, x2⟩ := X.out
  by_cases hv : lok (n, l, g)
  case neg =>
    have HD := Lib.hid (decide_eq_false hv)
    have HF := Lib.hid (lbytesv_no hv)
    clear hv
    go_enter Try.func32, Try.ntmps32
    go_wp2_with fail
    refine HV.out.mono ?_
    rw [HD.out]
    rintro e w1 ⟨rfl, hb1⟩
    have B1 := Lib.hid (B.out.trans (hb1.mono B.out.size))
    clear hb1
    go_wp2_with fail
    go_ret
    exact ⟨ret_int HF.out.symm, B1.out⟩
  have HD := Lib.hid (decide_eq_true hv)
  have HF := Lib.hid (lbytesv_yes hv)
  have HVV := Lib.hid hv
  clear hv
  go_enter Try.func32, Try.ntmps32
  go_wp2_with fail
  refine HV.out.mono ?_
  rw [HD.out]
  rintro e w1 ⟨rfl, hb1⟩
  have X1 := Lib.hid (X.out.below hb1)
  have B1 := Lib.hid (B.out.trans (hb1.mono B.out.size))
  clear hb1 x0 x1 x2
  obtain ⟨x0, x1, x2⟩ := X1.out
  have CF := Lib.hid (flightOf_any _ l w1 (HS.out.below B1.out) hl)
  go_wp2_with fail
  refine CF.out.mono ?_
  rintro e w3 ⟨f, cs, rfl, hf3, hb3⟩
  have B3 := Lib.hid (B1.out.trans (hb3.mono B1.out.size))
  have CZ := Lib.hid (fsize_any _ f cs l w3 hf3 HVV.out.2.2.1 (fun p hp => (HVV.out.2.2.2.1 p hp).2.2.1))
  clear hf3 hb3 x0 x1 x2
  go_wp2_with fail
  refine CZ.out.mono ?_
  rintro e w4 ⟨rfl, hw⟩
  rw [← hw]
  clear hw
  go_wp2_with fail
  go_ret
  exact ⟨ret_int HF.out.symm, B3.out⟩

end Go.Proofs.Ytpbkhlkhnjmacab
