/- The exact law of RangesUnion: the walk. -/
import Derived.Test.YtcjhbcibhcogjabToRg
import Derived.Test.YtcjhbcibhcogjabEqRg
import Derived.Test.YtcjhbcibhcogjabMkRg
import Derived.Test.YtcjhbcibhcogjabMkF
import Derived.Test.YtcjhbcibhcogjabIUn
import Derived.Test.YtcjhbcibhcogjabSUn
namespace Go.Proofs.Ytcjhbcibhcogjab
open Go.RowKit
set_option linter.unusedVariables false
set_option linter.unusedSimpArgs false

theorem ne_swap {a b : Option Nat} (h : a = none ∨ a ≠ b) : b = none ∨ b ≠ a := by
  rcases h with h | h
  · cases b with
    | none => exact .inl rfl
    | some k => exact .inr (by rw [h]; simp)
  · exact .inr (Ne.symm h)

set_option maxRecDepth 100000 in
set_option maxHeartbeats 4000000 in
theorem exun_walk (a : Option Addr) (len cap : Nat) (l : List (Int × Int)) (b : Option Addr) (len' cap' : Nat) (m : List (Int × Int)) (w : World) (hn : l.length = len ∧ len ≤ 9223372036854775807) (h : Rngs w (.slice a len cap) l) (hn' : m.length = len' ∧ len' ≤ 9223372036854775807) (h' : Rngs w (.slice b len' cap') m) :
    Calls Try.prog 8 #[.slice a len cap, .slice b len' cap'] w fun e w' => e = .returned (.bool true) ∧ Below w.heap.size w w' := by
  obtain ⟨rfl, hmax⟩ := hn
  obtain ⟨rfl, hmax'⟩ := hn'
  by_cases hl : 1048576 < l.length
  · have HS := Lib.hid (show (if (1048576 : Int) < (l.length : Int) then -1 else 1048576 - (l.length : Int)) = -1 from if_pos (by omega))
    clear h h'
    go_enter Try.func8, Try.ntmps8
    go_wp2_with fail
    refine (sz_any a l.length cap 1048576 w (by omega) (by omega) (by omega)).mono ?_
    rw [HS.out]
    rintro e w1 ⟨rfl, rfl⟩
    go_wp2_with fail
    go_ret
    exact ⟨rfl, Below.refl _ _⟩
  have hx : l.length ≤ 1048576 := by omega
  have HS := Lib.hid (show (if (1048576 : Int) < (l.length : Int) then -1 else 1048576 - (l.length : Int)) = 1048576 - (l.length : Int) from if_neg (by omega))
  have hnn : ¬ (1048576 - (l.length : Int)) < 0 := by omega
  clear hl
  by_cases hl2 : 1048576 - (l.length : Int) < (m.length : Int)
  · have HS2 := Lib.hid (show (if (1048576 - (l.length : Int)) < (m.length : Int) then -1 else 1048576 - (l.length : Int) - (m.length : Int)) = -1 from if_pos hl2)
    clear h h' hl2
    go_enter Try.func8, Try.ntmps8
    go_wp2_with fail
    refine (sz_any a l.length cap 1048576 w (by omega) (by omega) (by omega)).mono ?_
    rw [HS.out]
    rintro e w1 ⟨rfl, rfl⟩
    go_wp2_with fail
    refine (sz_any b m.length cap' (1048576 - (l.length : Int)) w (by omega) (by omega) (by omega)).mono ?_
    rw [HS2.out]
    rintro e w2 ⟨rfl, rfl⟩
    go_wp2_with fail
    go_ret
    exact ⟨rfl, Below.refl _ _⟩
  have hy : m.length ≤ 1048576 := by omega
  have HS2 := Lib.hid (show (if (1048576 - (l.length : Int)) < (m.length : Int) then -1 else 1048576 - (l.length : Int) - (m.length : Int)) = 1048576 - (l.length : Int) - (m.length : Int) from if_neg hl2)
  have hnn2 : ¬ (1048576 - (l.length : Int) - (m.length : Int)) < 0 := by omega
  have I0 := Lib.hid h
  have J0 := Lib.hid h'
  have hll : (l == l) = true := by simp
  have hmm : (m == m) = true := by simp
  clear h h' hl2
  have hrl : (runion l m).length ≤ 1048576 := Nat.le_trans (runion_len l m) (by omega)
  obtain ⟨r, hr⟩ : ∃ r, runion l m = r := ⟨_, rfl⟩
  rw [hr] at hrl
  have HRR := Lib.hid hr
  have hrr : (r == r) = true := by simp
  obtain ⟨ok, hok⟩ : ∃ ok, runionOk l m = ok := ⟨_, rfl⟩
  have HOK := Lib.hid hok
  have hoo : (ok != ok) = false := by cases ok <;> rfl
  clear hr hok
  go_enter Try.func8, Try.ntmps8
  go_wp2_with fail
  refine (sz_any a l.length cap 1048576 w (by omega) (by omega) (by omega)).mono ?_
  rw [HS.out]
  rintro e w0 ⟨rfl, rfl⟩
  go_wp2_with fail
  refine (sz_any b m.length cap' (1048576 - (l.length : Int)) w (by omega) (by omega) (by omega)).mono ?_
  rw [HS2.out]
  rintro e w0 ⟨rfl, rfl⟩
  go_wp2_with fail
  refine (tors_any _ l w I0.out hx).mono ?_
  rintro e w1 ⟨v1, rfl, hb1, ho1, hn1⟩
  have B1 := Lib.hid hb1
  have I1 := Lib.hid (Rngs.of_own ho1)
  clear hb1 ho1 hn1
  go_wp2_with fail
  refine (tors_any _ m w1 (J0.out.below B1.out) hy).mono ?_
  rintro e w2 ⟨v2, rfl, hb2, ho2, hn2⟩
  have B2 := Lib.hid (B1.out.trans (hb2.mono B1.out.size))
  have I1b := Lib.hid (I1.out.below hb2)
  have I2 := Lib.hid (Rngs.of_own ho2)
  clear hb2 ho2 hn2
  go_wp2_with fail
  refine (sunion_any v1 v2 l m w2 I1b.out I2.out hx hy).mono ?_
  rintro e w3 ⟨v3, rfl, hb3, ho3, _⟩
  rw [HOK.out]
  rw [HRR.out] at ho3
  have B3 := Lib.hid (B2.out.trans (hb3.mono B2.out.size))
  have I3 := Lib.hid (Rngs.of_own ho3)
  clear hb3 ho3
  go_wp2_with fail
  refine (tors_any _ l w3 (I0.out.below B3.out) hx).mono ?_
  rintro e w4 ⟨v4, rfl, hb4, ho4, hn4⟩
  have C4 := Lib.hid hb4
  have O4 := Lib.hid ho4
  have I4 := Lib.hid (Rngs.of_own ho4)
  clear hb4 ho4 hn4
  go_wp2_with fail
  refine (tors_any _ m w4 (J0.out.below (B3.out.trans (C4.out.mono B3.out.size))) hy).mono ?_
  rintro e w5 ⟨v5, rfl, hb5, ho5, hn5⟩
  have C5 := Lib.hid (C4.out.trans (hb5.mono C4.out.size))
  have O4a := Lib.hid (own_below O4.out hb5)
  have I4a := Lib.hid (I4.out.below hb5)
  have O5 := Lib.hid ho5
  have I5 := Lib.hid (Rngs.of_own ho5)
  have D45 := Lib.hid (own_ne O4.out ho5 (Nat.le_refl _))
  have hs45 := hb5.size
  clear hb5 ho5 hn5
  go_wp2_with fail
  refine (iunion_any v4 v5 l m w5 I4a.out I5.out hx hy).mono ?_
  rintro e w6 ⟨v6, rfl, hb6, ho6, _⟩
  rw [HOK.out]
  rw [HRR.out] at ho6
  have C6 := Lib.hid (C5.out.trans (hb6.mono C5.out.size))
  have O4b := Lib.hid (own_below O4a.out hb6)
  have O5b := Lib.hid (own_below O5.out hb6)
  have O6 := Lib.hid ho6
  have D46 := Lib.hid (own_ne O4a.out ho6 (Nat.le_refl _))
  have D56 := Lib.hid (own_ne O5.out ho6 (Nat.le_refl _))
  have hs34 := C4.out.size
  have hs35 := C5.out.size
  clear hb6 ho6
  go_wp2_with fail
  refine (eqrs_any v6 v3 r r w6 (Rngs.of_own O6.out) (I3.out.below C6.out) hrl hrl).mono ?_
  rw [hrr]
  rintro e w7 ⟨rfl, hb7⟩
  have C7 := Lib.hid (C6.out.trans (hb7.mono C6.out.size))
  have O4c := Lib.hid (own_below O4b.out hb7)
  have O5c := Lib.hid (own_below O5b.out hb7)
  have O6c := Lib.hid (own_below O6.out hb7)
  clear hb7
  go_wp2_with fail
  refine (tors_any _ l w7 (I0.out.below (B3.out.trans (C7.out.mono B3.out.size))) hx).mono ?_
  rintro e w8 ⟨v8, rfl, hb8, ho8, hn8⟩
  have C8 := Lib.hid (C7.out.trans (hb8.mono C7.out.size))
  have O4d := Lib.hid (own_below O4c.out hb8)
  have O5d := Lib.hid (own_below O5c.out hb8)
  have O6d := Lib.hid (own_below O6c.out hb8)
  have I8 := Lib.hid (Rngs.of_own ho8)
  clear hb8 ho8 hn8
  go_wp2_with fail
  refine (eqrs_any v4 v8 l l w8 (Rngs.of_own O4d.out) I8.out hx hx).mono ?_
  rw [hll]
  rintro e w9 ⟨rfl, hb9⟩
  have C9 := Lib.hid (C8.out.trans (hb9.mono C8.out.size))
  have O4e := Lib.hid (own_below O4d.out hb9)
  have O5e := Lib.hid (own_below O5d.out hb9)
  have O6e := Lib.hid (own_below O6d.out hb9)
  clear hb9
  go_wp2_with fail
  refine (tors_any _ m w9 (J0.out.below (B3.out.trans (C9.out.mono B3.out.size))) hy).mono ?_
  rintro e w10 ⟨v10, rfl, hb10, ho10, hn10⟩
  have C10 := Lib.hid (C9.out.trans (hb10.mono C9.out.size))
  have O4f := Lib.hid (own_below O4e.out hb10)
  have O5f := Lib.hid (own_below O5e.out hb10)
  have O6f := Lib.hid (own_below O6e.out hb10)
  have I10 := Lib.hid (Rngs.of_own ho10)
  clear hb10 ho10 hn10
  go_wp2_with fail
  refine (eqrs_any v5 v10 m m w10 (Rngs.of_own O5f.out) I10.out hy hy).mono ?_
  rw [hmm]
  rintro e w11 ⟨rfl, hb11⟩
  have C11 := Lib.hid (C10.out.trans (hb11.mono C10.out.size))
  have O4g := Lib.hid (own_below O4f.out hb11)
  have O5g := Lib.hid (own_below O5f.out hb11)
  have O6g := Lib.hid (own_below O6f.out hb11)
  clear hb11
  go_wp2_with fail
  refine (markf_any v4 l 1 _ w11 O4g.out hx (by omega) (by omega)).mono ?_
  rintro e w12 ⟨rfl, hg12⟩
  have C12 := Lib.hid (C11.out.grown hg12 C11.out.size (fun j hj => (World.ownsRow.lt O4g.out j hj).1))
  have O5h := Lib.hid (show OwnRg w12 w4.heap.size v5 m from World.ownsRow.kept O5g.out hg12 (ne_swap D45.out))
  have O6h := Lib.hid (show OwnRg w12 w5.heap.size v6 r from World.ownsRow.kept O6g.out hg12 (ne_swap D46.out))
  clear hg12
  go_wp2_with fail
  refine (markf_any v5 m (1 + 2 * (l.length : Int)) _ w12 O5h.out hy (by omega) (by omega)).mono ?_
  rintro e w13 ⟨rfl, hg13⟩
  have C13 := Lib.hid (C12.out.grown hg13 C12.out.size (fun j hj => Nat.le_trans hs34 (World.ownsRow.lt O5h.out j hj).1))
  have O6i := Lib.hid (show OwnRg w13 w5.heap.size v6 r from World.ownsRow.kept O6h.out hg13 (ne_swap D56.out))
  clear hg13
  have hk0 : ¬ (1 + 2 * (l.length : Int) + 2 * (m.length : Int)) < 0 := by omega
  go_wp2_with fail
  refine (eqrs_any v6 v3 r r w13 (Rngs.of_own O6i.out) (I3.out.below C13.out) hrl hrl).mono ?_
  rw [hrr]
  rintro e w14 ⟨rfl, hb14⟩
  have C14 := Lib.hid (C13.out.trans (hb14.mono C13.out.size))
  have O6j := Lib.hid (own_below O6i.out hb14)
  clear hb14
  go_wp2_with fail
  refine (markr_any v6 r _ w14 O6j.out hrl).mono ?_
  rintro e w15 ⟨rfl, hg15, ho15⟩
  have C15 := Lib.hid (C14.out.grown hg15 C14.out.size (fun j hj => Nat.le_trans hs35 (World.ownsRow.lt O6j.out j hj).1))
  have O15 := Lib.hid ho15
  clear hg15 ho15
  have hq0 : ¬ (1 + 2 * (r.length : Int)) < 0 := by omega
  have hqq : ((1 + 2 * (r.length : Int)) != (1 + 2 * (r.length : Int))) = false := by simp
  go_wp2_with fail
  refine (heldr_any v6 r.length w15 (Rngs.of_own O15.out) hrl).mono ?_
  rintro e w16 ⟨rfl, rfl⟩
  go_wp2_with fail
  refine (tors_any _ l w15 (I0.out.below (B3.out.trans (C15.out.mono B3.out.size))) hx).mono ?_
  rintro e w16 ⟨v16, rfl, hb16, ho16, hn16⟩
  have C16 := Lib.hid (C15.out.trans (hb16.mono C15.out.size))
  have D16 := Lib.hid hb16
  have I16 := Lib.hid (Rngs.of_own ho16)
  clear hb16 ho16 hn16
  go_wp2_with fail
  refine (tors_any _ m w16 (J0.out.below (B3.out.trans (C16.out.mono B3.out.size))) hy).mono ?_
  rintro e w17 ⟨v17, rfl, hb17, ho17, hn17⟩
  have C17 := Lib.hid (C16.out.trans (hb17.mono C16.out.size))
  have D17 := Lib.hid (D16.out.trans (hb17.mono D16.out.size))
  have I16b := Lib.hid (I16.out.below hb17)
  have I17 := Lib.hid (Rngs.of_own ho17)
  clear hb17 ho17 hn17
  go_wp2_with fail
  refine (iunion_any v16 v17 l m w17 I16b.out I17.out hx hy).mono ?_
  rintro e w18 ⟨v18, rfl, hb18, ho18, _⟩
  rw [HOK.out]
  rw [HRR.out] at ho18
  have C18 := Lib.hid (C17.out.trans (hb18.mono C17.out.size))
  have D18 := Lib.hid (D17.out.trans (hb18.mono D17.out.size))
  have I18 := Lib.hid (Rngs.of_own ho18)
  clear hb18 ho18
  go_wp2_with fail
  refine (eqrs_any v18 v3 r r w18 I18.out (I3.out.below C18.out) hrl hrl).mono ?_
  rw [hrr]
  rintro e w19 ⟨rfl, hb19⟩
  have C19 := Lib.hid (C18.out.trans (hb19.mono C18.out.size))
  have D19 := Lib.hid (D18.out.trans (hb19.mono D18.out.size))
  clear hb19
  go_wp2_with fail
  refine (heldr_any v6 r.length w19 ((Rngs.of_own O15.out).below D19.out) hrl).mono ?_
  rintro e w20 ⟨rfl, rfl⟩
  go_wp2_with fail
  go_ret
  exact ⟨rfl, B3.out.trans (C19.out.mono B3.out.size)⟩

end Go.Proofs.Ytcjhbcibhcogjab
