/- The exact law of RangesHas: the walk. -/
import Derived.Test.YtcjhbcibhcogjabToRg
import Derived.Test.YtcjhbcibhcogjabEqRg
import Derived.Test.YtcjhbcibhcogjabIHas
import Derived.Test.YtcjhbcibhcogjabSHas
namespace Go.Proofs.Ytcjhbcibhcogjab
open Go.RowKit
set_option linter.unusedVariables false
set_option linter.unusedSimpArgs false

set_option maxRecDepth 100000 in
set_option maxHeartbeats 2000000 in
theorem exhas_walk (a : Option Addr) (len cap : Nat) (l : List (Int × Int)) (x : Int) (w : World) (hn : l.length = len ∧ len ≤ 9223372036854775807) (h : Rngs w (.slice a len cap) l) :
    Calls Try.prog 5 #[.slice a len cap, .int .i64 x] w fun e w' => e = .returned (.bool true) ∧ Below w.heap.size w w' := by
  obtain ⟨rfl, hmax⟩ := hn
  by_cases hl : 1048576 < l.length
  · have HS := Lib.hid (show (if (1048576 : Int) < (l.length : Int) then -1 else 1048576 - (l.length : Int)) = -1 from if_pos (by omega))
    clear h
    go_enter Try.func5, Try.ntmps5
    go_wp2_with fail
    refine (sz_any a l.length cap 1048576 w (by omega) (by omega) (by omega)).mono ?_
    rw [HS.out]
    rintro e w1 ⟨rfl, rfl⟩
    go_wp2_with fail
    go_ret
    exact ⟨rfl, Below.refl _ _⟩
  have hx : l.length ≤ 1048576 := by omega
  have HS := Lib.hid (show (if (1048576 : Int) < (l.length : Int) then -1 else 1048576 - (l.length : Int)) = 1048576 - (l.length : Int) from if_neg (by omega))
  have I0 := Lib.hid h
  have hll : (l == l) = true := by simp
  have hnn : ¬ (1048576 - (l.length : Int)) < 0 := by omega
  clear h hl
  go_enter Try.func5, Try.ntmps5
  go_wp2_with fail
  refine (sz_any a l.length cap 1048576 w (by omega) (by omega) (by omega)).mono ?_
  rw [HS.out]
  rintro e w0 ⟨rfl, rfl⟩
  go_wp2_with fail
  refine (tors_any _ l w I0.out hx).mono ?_
  rintro e w1 ⟨v1, rfl, hb1, ho1, hn1⟩
  have B1 := Lib.hid hb1
  have O1 := Lib.hid ho1
  have I1 := Lib.hid (Rngs.of_own ho1)
  clear hb1 ho1 hn1
  go_wp2_with fail
  refine (shas_any v1 l x w1 I1.out hx).mono ?_
  rintro e w2 ⟨rfl, hb2⟩
  have B2 := Lib.hid (B1.out.trans (hb2.mono B1.out.size))
  clear hb2
  go_wp2_with fail
  refine (tors_any _ l w2 (I0.out.below B2.out) hx).mono ?_
  rintro e w3 ⟨v3, rfl, hb3, ho3, hn3⟩
  have B3 := Lib.hid (B2.out.trans (hb3.mono B2.out.size))
  have I3 := Lib.hid (Rngs.of_own ho3)
  clear hb3 ho3 hn3
  go_wp2_with fail
  refine (ihas_any v3 l x w3 I3.out hx).mono ?_
  rintro e w4 ⟨rfl, hb4⟩
  have B4 := Lib.hid (B3.out.trans (hb4.mono B3.out.size))
  have I4 := Lib.hid (I3.out.below hb4)
  have hne : ((rvalid l && rhas l x) != (rvalid l && rhas l x)) = false := by simp
  clear hb4
  generalize (rvalid l && rhas l x) = z at hne ⊢
  go_wp2_with fail
  refine (tors_any _ l w4 (I0.out.below B4.out) hx).mono ?_
  rintro e w5 ⟨v5, rfl, hb5, ho5, hn5⟩
  have B5 := Lib.hid (B4.out.trans (hb5.mono B4.out.size))
  have I4b := Lib.hid (I4.out.below hb5)
  have I5 := Lib.hid (Rngs.of_own ho5)
  clear hb5 ho5 hn5
  go_wp2_with fail
  refine (eqrs_any v3 v5 l l w5 I4b.out I5.out hx hx).mono ?_
  rw [hll]
  rintro e w6 ⟨rfl, hb6⟩
  have B6 := Lib.hid (B5.out.trans (hb6.mono B5.out.size))
  clear hb6
  go_wp2_with fail
  go_ret
  exact ⟨rfl, B6.out⟩

end Go.Proofs.Ytcjhbcibhcogjab
