/- The law 'exact' of VarintJoin: the walk. -/
import Derived.Test.YtfppnaaofkicaabEqInt
import Derived.Test.YtfppnaaofkicaabCopy
import Derived.Test.YtfppnaaofkicaabJoin
import Derived.Test.YtfppnaaofkicaabPick
namespace Go.Proofs.Ytfppnaaofkicaab
open Go.RowKit
set_option linter.unusedVariables false
set_option linter.unusedSimpArgs false

theorem Ints.of_row {w : World} {a : Option Addr} {len cap : Nat} {zs : List Int} (h : IsRow .i64 w a len cap zs) : Ints w (.slice a len cap) (zs.take len) ∧ (zs.take len).length = len := by
  rcases h with ⟨rfl, rfl, rfl, rfl⟩ | ⟨x, rfl, hl, hm, hz, hcell, hwz⟩
  · exact ⟨⟨none, 0, rfl, fun h => absurd rfl h⟩, rfl⟩
  · have hlen : (zs.take len).length = len := by simp; omega
    refine ⟨⟨some x, cap, by rw [hlen], fun hne => ?_⟩, hlen⟩
    have hpos : 0 < len := by
      rcases Nat.eq_zero_or_pos len with h0 | h0
      · subst h0; simp at hne
      · exact h0
    obtain ⟨ab, off, spot⟩ := x
    have hspot : spot = none := by
      have := World.cell?_spot (hcell 0 (by omega))
      simpa [Addr.add] using this
    subst hspot
    refine ⟨ab, off, rfl, fun i hi => ?_⟩
    rw [hlen] at hi
    have e : (⟨ab, off, none⟩ : Addr).add i = ⟨ab, off + i, none⟩ := by unfold Addr.add; split <;> simp_all
    rw [← e, hcell i (by omega)]
    simp [List.getD_eq_getElem?_getD, List.getElem?_take, hi]

set_option maxHeartbeats 1000000 in
theorem exjoin_walk (a : Option Addr) (len cap : Nat) (zs : List Int) (w : World) (h : IsRow .i64 w a len cap zs) :
    Calls Try.prog 9 #[.slice a len cap] w fun e w' => e = .returned (.bool true) ∧ Below w.heap.size w w' := by
  obtain ⟨hi, hlen⟩ := Ints.of_row h
  by_cases hl : 1048576 < len
  · clear hi hlen h
    go_enter Try.func9, Try.ntmps9
    go_wp2
    go_ret
    exact ⟨rfl, Below.refl _ _⟩
  have I0 := Lib.hid hi
  generalize zs.take len = xs at I0 hlen
  have hx : xs.length ≤ 1048576 := by omega
  have hxx : (xs == xs) = true := by simp
  clear hi hlen h
  go_enter Try.func9, Try.ntmps9
  go_wp2_with fail
  refine (toInt_any _ xs w I0.out hx).mono ?_
  rintro e w1 ⟨v1, rfl, hb1, ho1, _⟩
  have B1 := Lib.hid hb1
  have I1 := Lib.hid (Ints.of_own ho1)
  clear hb1 ho1
  go_wp2_with fail
  refine (sjoin_any v1 xs w1 I1.out hx).mono ?_
  rintro e w2 ⟨rfl, hb2⟩
  have B2 := Lib.hid (B1.out.trans (hb2.mono B1.out.size))
  have I0b := Lib.hid (I0.out.below B2.out)
  clear hb2
  go_wp2_with fail
  refine (toInt_any _ xs w2 I0b.out hx).mono ?_
  rintro e w3 ⟨v3, rfl, hb3, ho3, _⟩
  have B3 := Lib.hid (B2.out.trans (hb3.mono B2.out.size))
  have I3 := Lib.hid (Ints.of_own ho3)
  clear hb3 ho3
  go_wp2_with fail
  refine (ijoin_any v3 xs w3 I3.out hx).mono ?_
  rintro e w4 ⟨rfl, hb4⟩
  have B4 := Lib.hid (B3.out.trans (hb4.mono B3.out.size))
  have I3b := Lib.hid (I3.out.below hb4)
  have I0c := Lib.hid (I0.out.below B4.out)
  clear hb4
  go_wp2_with fail
  refine (toInt_any _ xs w4 I0c.out hx).mono ?_
  rintro e w5 ⟨v5, rfl, hb5, ho5, _⟩
  have B5 := Lib.hid (B4.out.trans (hb5.mono B4.out.size))
  have I3c := Lib.hid (I3b.out.below hb5)
  have I5 := Lib.hid (Ints.of_own ho5)
  clear hb5 ho5
  go_wp2_with fail
  refine (eqint_any v3 v5 xs xs w5 I3c.out I5.out (by omega) (by omega)).mono ?_
  rintro e w6 ⟨rfl, hb6⟩
  rw [hxx]
  have B6 := Lib.hid (B5.out.trans (hb6.mono B5.out.size))
  clear hb6
  go_wp2_with fail
  go_ret
  exact ⟨rfl, B6.out⟩

end Go.Proofs.Ytfppnaaofkicaab
