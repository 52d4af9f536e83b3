/- The exact law FnExactWindowTotal: the walk. -/
import Derived.Test.YtfggldholaibeaaEqWs
import Derived.Test.YtfggldholaibeaaMkWs
import Derived.Test.YtfggldholaibeaaRowW
import Derived.Test.YtfggldholaibeaaWTot
namespace Go.Proofs.Ytfggldholaibeaa
open Go.RowKit
set_option linter.unusedVariables false
set_option linter.unusedSimpArgs false

set_option maxRecDepth 100000 in
set_option maxHeartbeats 8000000 in
theorem exwt_walk (a : Option Addr) (len cap : Nat) (l : List Wd) (w : World) (hn : l.length = len ∧ len ≤ 9223372036854775807) (h : Wds w (.slice a len cap) l) :
    Calls Try.prog 7 #[.slice a len cap] w fun e w' => e = .returned (.bool true) ∧ Below w.heap.size w w' := by
  obtain ⟨rfl, hlm⟩ := hn
  have HSZ := Lib.hid (szw_any a l.length cap 1048576 w (by omega) (by omega) hlm)
  by_cases hbig : (1048576 : Int) < (l.length : Int)
  · rw [if_pos hbig] at HSZ
    clear h hbig
    go_enter Try.func7, Try.ntmps7
    go_wp2_with fail
    refine HSZ.out.mono ?_
    rintro e w1 ⟨rfl, rfl⟩
    go_wp2_with fail
    go_ret
    exact ⟨rfl, Below.refl _ _⟩
  rw [if_neg hbig] at HSZ
  have hl : l.length ≤ 1048576 := by omega
  obtain ⟨z, hz⟩ : ∃ z : Int, 1048576 - (l.length : Int) = z := ⟨_, rfl⟩
  rw [hz] at HSZ
  have hz' : ¬ z < 0 := by omega
  have TOR := Lib.hid (fun (W : World) (hb : Below w.heap.size w W) => tows_any (.slice a l.length cap) l W (h.below hb) hl)
  have hll : (l == l) = true := beq_self_eq_true l
  have HLL := Lib.hid hll
  clear h hbig hz hll
  go_enter Try.func7, Try.ntmps7
  go_wp2_with fail
  refine HSZ.out.mono ?_
  rintro e w1 ⟨rfl, hw⟩
  rw [← hw]
  clear hw
  have B1 := Lib.hid (Below.refl w.heap.size w)
  go_wp2_with fail
  refine (TOR.out _ B1.out).mono ?_
  rintro e w2 ⟨v1, rfl, hb, ho, _⟩
  have B2 := Lib.hid hb
  have C1 := Lib.hid (swt_any v1 l w2 ho.pks hl)
  obtain ⟨a1, c1, rfl⟩ := ho.shape
  obtain ⟨q, hq⟩ : ∃ q, wtotv l = q := ⟨_, rfl⟩
  rw [hq] at C1
  have HQ := Lib.hid hq
  clear hb ho hq
  go_wp2_with fail
  refine C1.out.mono ?_
  rintro e w3 ⟨rfl, hb⟩
  have B3 := Lib.hid (B2.out.trans (hb.mono B2.out.size))
  clear hb
  go_wp2_with fail
  refine (TOR.out _ B3.out).mono ?_
  rintro e w4 ⟨v2, rfl, hb, ho, _⟩
  have B4 := Lib.hid (B3.out.trans (hb.mono B3.out.size))
  have C2 := Lib.hid (iwt_any v2 l w4 ho.pks hl)
  rw [HQ.out] at C2
  have X4 := Lib.hid ho.pks
  obtain ⟨a2, c2, rfl⟩ := ho.shape
  clear hb ho
  go_wp2_with fail
  refine C2.out.mono ?_
  rintro e w5 ⟨rfl, hb⟩
  have B5 := Lib.hid (B4.out.trans (hb.mono B4.out.size))
  have X5 := Lib.hid (X4.out.below hb)
  clear hb
  go_wp2_with fail
  refine (TOR.out _ B5.out).mono ?_
  rintro e w6 ⟨v3, rfl, hb, ho, _⟩
  have B6 := Lib.hid (B5.out.trans (hb.mono B5.out.size))
  have C3 := Lib.hid (eqws_any _ _ l l w6 (X5.out.below hb) ho.pks hl hl)
  rw [HLL.out] at C3
  obtain ⟨a3, c3, rfl⟩ := ho.shape
  clear hb ho
  go_wp2_with fail
  refine C3.out.mono ?_
  rintro e w7 ⟨rfl, hb⟩
  have B7 := Lib.hid (B6.out.trans (hb.mono B6.out.size))
  clear hb
  go_wp2_with fail
  go_ret
  exact ⟨rfl, B7.out⟩
end Go.Proofs.Ytfggldholaibeaa
