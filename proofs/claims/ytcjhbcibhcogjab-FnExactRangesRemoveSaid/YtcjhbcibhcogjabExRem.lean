/- The exact law of RangesRemove: the walk. -/
import Derived.Test.YtcjhbcibhcogjabToRg
import Derived.Test.YtcjhbcibhcogjabEqRg
import Derived.Test.YtcjhbcibhcogjabMkRg
import Derived.Test.YtcjhbcibhcogjabIRem
import Derived.Test.YtcjhbcibhcogjabRgLawR
namespace Go.Proofs.Ytcjhbcibhcogjab
open Go.RowKit
set_option linter.unusedVariables false
set_option linter.unusedSimpArgs false

theorem ne_swap {a b : Option Nat} (h : a = none ∨ a ≠ b) : b = none ∨ b ≠ a := by
  rcases h with h | h
  · cases b with
    | none => exact .inl rfl
    | some k => exact .inr (by rw [h]; simp)
  · exact .inr (Ne.symm h)

set_option maxRecDepth 100000 in
set_option maxHeartbeats 4000000 in
theorem exrem_walk (a : Option Addr) (len cap : Nat) (l : List (Int × Int)) (lo hi : Int) (w : World) (hn : l.length = len ∧ len ≤ 9223372036854775807) (h : Rngs w (.slice a len cap) l) :
    Calls Try.prog 7 #[.slice a len cap, .int .i64 lo, .int .i64 hi] w fun e w' => e = .returned (.bool true) ∧ Below w.heap.size w w' := by
  obtain ⟨rfl, hmax⟩ := hn
  by_cases hl : 1048576 < l.length
  · have HS := Lib.hid (show (if (1048576 : Int) < (l.length : Int) then -1 else 1048576 - (l.length : Int)) = -1 from if_pos (by omega))
    clear h
    go_enter Try.func7, Try.ntmps7
    go_wp2_with fail
    refine (sz_any a l.length cap 1048576 w (by omega) (by omega) (by omega)).mono ?_
    rw [HS.out]
    rintro e w1 ⟨rfl, rfl⟩
    go_wp2_with fail
    go_ret
    exact ⟨rfl, Below.refl _ _⟩
  have hx : l.length ≤ 1048576 := by omega
  have HS := Lib.hid (show (if (1048576 : Int) < (l.length : Int) then -1 else 1048576 - (l.length : Int)) = 1048576 - (l.length : Int) from if_neg (by omega))
  have I0 := Lib.hid h
  have hll : (l == l) = true := by simp
  have hnn : ¬ (1048576 - (l.length : Int)) < 0 := by omega
  clear h hl
  have hrl : (rrem l lo hi).length ≤ 1048576 := Nat.le_trans (rrem_len l lo hi) (by omega)
  obtain ⟨r, hr⟩ : ∃ r, rrem l lo hi = r := ⟨_, rfl⟩
  rw [hr] at hrl
  have HRR := Lib.hid hr
  have hrr : (r == r) = true := by simp
  obtain ⟨ok, hok⟩ : ∃ ok, rremOk l lo hi = ok := ⟨_, rfl⟩
  have HOK := Lib.hid hok
  have hoo : (ok != ok) = false := by cases ok <;> rfl
  clear hok
  clear hr
  go_enter Try.func7, Try.ntmps7
  go_wp2_with fail
  refine (sz_any a l.length cap 1048576 w (by omega) (by omega) (by omega)).mono ?_
  rw [HS.out]
  rintro e w0 ⟨rfl, rfl⟩
  go_wp2_with fail
  refine (tors_any _ l w I0.out hx).mono ?_
  rintro e w1 ⟨v1, rfl, hb1, ho1, hn1⟩
  have B1 := Lib.hid hb1
  have I1 := Lib.hid (Rngs.of_own ho1)
  clear hb1 ho1 hn1
  go_wp2_with fail
  refine (srrem_any v1 l lo hi w1 I1.out hx).mono ?_
  rintro e w2 ⟨v2, rfl, hb2, ho2, _⟩
  rw [HOK.out]
  rw [HRR.out] at ho2
  have B2 := Lib.hid (B1.out.trans (hb2.mono B1.out.size))
  have I2 := Lib.hid (Rngs.of_own ho2)
  clear hb2 ho2
  go_wp2_with fail
  refine (tors_any _ l w2 (I0.out.below B2.out) hx).mono ?_
  rintro e w3 ⟨v3, rfl, hb3, ho3, hn3⟩
  have C3 := Lib.hid hb3
  have O3 := Lib.hid ho3
  have I3 := Lib.hid (Rngs.of_own ho3)
  clear hb3 ho3 hn3
  go_wp2_with fail
  refine (irrem_any v3 l lo hi w3 I3.out hx).mono ?_
  rintro e w4 ⟨v4, rfl, hb4, ho4, _⟩
  rw [HOK.out]
  rw [HRR.out] at ho4
  have C4 := Lib.hid (C3.out.trans (hb4.mono C3.out.size))
  have O3b := Lib.hid (own_below O3.out hb4)
  have O4 := Lib.hid ho4
  have D34 := Lib.hid (own_ne O3.out ho4 (Nat.le_refl _))
  have hs23 := C3.out.size
  clear hb4 ho4
  go_wp2_with fail
  refine (eqrs_any v4 v2 r r w4 (Rngs.of_own O4.out) (I2.out.below C4.out) hrl hrl).mono ?_
  rw [hrr]
  rintro e w5 ⟨rfl, hb5⟩
  have C5 := Lib.hid (C4.out.trans (hb5.mono C4.out.size))
  have O3c := Lib.hid (own_below O3b.out hb5)
  have O4b := Lib.hid (own_below O4.out hb5)
  clear hb5
  go_wp2_with fail
  refine (tors_any _ l w5 (I0.out.below (B2.out.trans (C5.out.mono B2.out.size))) hx).mono ?_
  rintro e w6 ⟨v6, rfl, hb6, ho6, hn6⟩
  have C6 := Lib.hid (C5.out.trans (hb6.mono C5.out.size))
  have O3d := Lib.hid (own_below O3c.out hb6)
  have O4c := Lib.hid (own_below O4b.out hb6)
  have I6 := Lib.hid (Rngs.of_own ho6)
  clear hb6 ho6 hn6
  go_wp2_with fail
  refine (eqrs_any v3 v6 l l w6 (Rngs.of_own O3d.out) I6.out hx hx).mono ?_
  rw [hll]
  rintro e w7 ⟨rfl, hb7⟩
  have C7 := Lib.hid (C6.out.trans (hb7.mono C6.out.size))
  have O3e := Lib.hid (own_below O3d.out hb7)
  have O4d := Lib.hid (own_below O4c.out hb7)
  clear hb7
  have hk0 : ¬ (1 + 2 * (l.length : Int)) < 0 := by omega
  go_wp2_with fail
  refine (markr_any v3 l _ w7 O3e.out hx).mono ?_
  rintro e w8 ⟨rfl, hg8, ho8⟩
  have C8 := Lib.hid (C7.out.grown hg8 C7.out.size (fun j hj => (World.ownsRow.lt O3e.out j hj).1))
  have O4e := Lib.hid (show OwnRg w8 w3.heap.size v4 r from World.ownsRow.kept O4d.out hg8 (ne_swap D34.out))
  clear hg8 ho8
  go_wp2_with fail
  refine (eqrs_any v4 v2 r r w8 (Rngs.of_own O4e.out) (I2.out.below C8.out) hrl hrl).mono ?_
  rw [hrr]
  rintro e w9 ⟨rfl, hb9⟩
  have C9 := Lib.hid (C8.out.trans (hb9.mono C8.out.size))
  have O4f := Lib.hid (own_below O4e.out hb9)
  clear hb9
  go_wp2_with fail
  refine (markr_any v4 r _ w9 O4f.out hrl).mono ?_
  rintro e w10 ⟨rfl, hg10, ho10⟩
  have C10 := Lib.hid (C9.out.grown hg10 C9.out.size (fun j hj => Nat.le_trans hs23 (World.ownsRow.lt O4f.out j hj).1))
  have O10 := Lib.hid ho10
  clear hg10 ho10
  have hq0 : ¬ (1 + 2 * (r.length : Int)) < 0 := by omega
  have hqq : ((1 + 2 * (r.length : Int)) != (1 + 2 * (r.length : Int))) = false := by simp
  go_wp2_with fail
  refine (heldr_any v4 r.length w10 (Rngs.of_own O10.out) hrl).mono ?_
  rintro e w11 ⟨rfl, rfl⟩
  go_wp2_with fail
  refine (tors_any _ l w10 (I0.out.below (B2.out.trans (C10.out.mono B2.out.size))) hx).mono ?_
  rintro e w11 ⟨v11, rfl, hb11, ho11, hn11⟩
  have C11 := Lib.hid (C10.out.trans (hb11.mono C10.out.size))
  have D11 := Lib.hid hb11
  have I11 := Lib.hid (Rngs.of_own ho11)
  clear hb11 ho11 hn11
  go_wp2_with fail
  refine (irrem_any v11 l lo hi w11 I11.out hx).mono ?_
  rintro e w12 ⟨v12, rfl, hb12, ho12, _⟩
  rw [HOK.out]
  rw [HRR.out] at ho12
  have C12 := Lib.hid (C11.out.trans (hb12.mono C11.out.size))
  have D12 := Lib.hid (D11.out.trans (hb12.mono D11.out.size))
  have I12 := Lib.hid (Rngs.of_own ho12)
  clear hb12 ho12
  go_wp2_with fail
  refine (eqrs_any v12 v2 r r w12 I12.out (I2.out.below C12.out) hrl hrl).mono ?_
  rw [hrr]
  rintro e w13 ⟨rfl, hb13⟩
  have C13 := Lib.hid (C12.out.trans (hb13.mono C12.out.size))
  have D13 := Lib.hid (D12.out.trans (hb13.mono D12.out.size))
  clear hb13
  go_wp2_with fail
  refine (heldr_any v4 r.length w13 ((Rngs.of_own O10.out).below D13.out) hrl).mono ?_
  rintro e w14 ⟨rfl, rfl⟩
  go_wp2_with fail
  go_ret
  exact ⟨rfl, B2.out.trans (C13.out.mono B2.out.size)⟩

end Go.Proofs.Ytcjhbcibhcogjab
