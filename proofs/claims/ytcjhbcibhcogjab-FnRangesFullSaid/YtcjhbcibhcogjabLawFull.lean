/- The law RangesFull: the walk. -/
import Derived.Test.YtcjhbcibhcogjabIAdd
import Derived.Test.YtcjhbcibhcogjabIRem
import Derived.Test.YtcjhbcibhcogjabRgLawR
import Derived.Test.YtcjhbcibhcogjabSameRg
import Derived.Test.YtcjhbcibhcogjabCntMath
namespace Go.Proofs.Ytcjhbcibhcogjab
open Go.RowKit
set_option linter.unusedVariables false
set_option linter.unusedSimpArgs false

theorem full_parts (l : List (Int × Int)) (lo hi : Int) : (rvalid l = false ∨ spanOk lo hi = false → raddOk l lo hi = false ∧ rremOk l lo hi = false) ∧ (rvalid l = true → spanOk lo hi = true → (raddOk l lo hi = false → l.length = 16) ∧ (rremOk l lo hi = false → l.length = 16)) := by
  constructor
  · rintro (h | h)
    · exact ⟨by unfold raddOk; rw [h]; rfl, by unfold rremOk; rw [h]; rfl⟩
    · exact ⟨by unfold raddOk; rw [h]; simp, by unfold rremOk; rw [h]; simp⟩
  · intro h1 h2
    obtain ⟨hv, hl⟩ := rvalid_parts h1
    have hs : 0 ≤ lo ∧ lo ≤ hi ∧ hi ≤ 999 := by unfold spanOk at h2; exact of_decide_eq_true h2
    have a1 := (ladd_props hv hs.1 hs.2.1 hs.2.2).2.1
    have a2 := lrem_len1 (lo := lo) (hi := hi) hv hs.2.1
    constructor
    · intro h
      unfold raddOk at h
      rw [h1, h2] at h
      have := of_decide_eq_false h
      omega
    · intro h
      unfold rremOk at h
      rw [h1, h2] at h
      have := of_decide_eq_false h
      omega

set_option maxRecDepth 100000 in
set_option maxHeartbeats 1000000 in
theorem full_walk (a : Option Addr) (len cap : Nat) (zs : List Int) (w : World) (h : IsRow .u8 w a len cap zs) :
    Calls Try.prog 3 #[.slice a len cap] w fun e w' => e = .returned (.bool true) ∧ Below w.heap.size w w' := by
  have H := Lib.hid h
  clear h
  by_cases hl : 1048576 < len
  · go_enter Try.func3, Try.ntmps3
    go_wp2
    go_ret
    exact ⟨rfl, Below.refl _ _⟩
  go_enter Try.func3, Try.ntmps3
  go_wp2_with fail
  refine (drawAdd_any a len cap zs w H.out).mono ?_
  rintro e w1 ⟨v, l, lo, hi, hl17, rfl, ⟨lo1, lo2⟩, ⟨hi1, hi2⟩, hb1, ho1, hn1⟩
  have B1 := Lib.hid hb1
  obtain ⟨la, lc, rfl⟩ := ownsRow_shape ho1
  have I1 := Lib.hid (Rngs.of_own ho1)
  obtain ⟨p1, p2⟩ := full_parts l lo hi
  have hrl := radd_len l lo hi
  have hml := rrem_len l lo hi
  obtain ⟨ok1, hok1⟩ : ∃ ok, raddOk l lo hi = ok := ⟨_, rfl⟩
  obtain ⟨r1, hr1⟩ : ∃ r, radd l lo hi = r := ⟨_, rfl⟩
  obtain ⟨ok2, hok2⟩ : ∃ ok, rremOk l lo hi = ok := ⟨_, rfl⟩
  obtain ⟨r2, hr2⟩ : ∃ r, rrem l lo hi = r := ⟨_, rfl⟩
  rw [hok1, hok2] at p1 p2
  rw [hr1] at hrl
  rw [hr2] at hml
  have P1 := Lib.hid p1
  have P2 := Lib.hid p2
  have HOK1 := Lib.hid hok1
  have HOK2 := Lib.hid hok2
  have HR1 := Lib.hid hr1
  have HR2 := Lib.hid hr2
  have hrr1 : (r1 == r1) = true := by simp
  have hrr2 : (r2 == r2) = true := by simp
  have hbb1 : (ok1 != ok1) = false := by cases ok1 <;> rfl
  have hbb2 : (ok2 != ok2) = false := by cases ok2 <;> rfl
  clear hb1 ho1 hn1 hok1 hok2 hr1 hr2 p1 p2
  go_wp2_with fail
  refine (iradd_any _ l lo hi w1 I1.out (by omega)).mono ?_
  rintro e w2 ⟨v2, rfl, hb2, ho2, _⟩
  rw [HOK1.out]
  rw [HR1.out] at ho2
  have C2 := Lib.hid hb2
  have I2 := Lib.hid (Rngs.of_own ho2)
  clear hb2 ho2
  go_wp2_with fail
  refine (irrem_any _ l lo hi w2 (I1.out.below C2.out) (by omega)).mono ?_
  rintro e w3 ⟨v3, rfl, hb3, ho3, _⟩
  rw [HOK2.out]
  rw [HR2.out] at ho3
  have C3 := Lib.hid (C2.out.trans (hb3.mono C2.out.size))
  have I2b := Lib.hid (I2.out.below hb3)
  have I3 := Lib.hid (Rngs.of_own ho3)
  clear hb3 ho3
  go_wp2_with fail
  refine (sradd_any _ l lo hi w3 (I1.out.below C3.out) (by omega)).mono ?_
  rintro e w4 ⟨v4, rfl, hb4, ho4, _⟩
  rw [HOK1.out]
  rw [HR1.out] at ho4
  have C4 := Lib.hid (C3.out.trans (hb4.mono C3.out.size))
  have I2c := Lib.hid (I2b.out.below hb4)
  have I3b := Lib.hid (I3.out.below hb4)
  have I4 := Lib.hid (Rngs.of_own ho4)
  clear hb4 ho4
  go_wp2_with fail
  refine (srrem_any _ l lo hi w4 (I1.out.below C4.out) (by omega)).mono ?_
  rintro e w5 ⟨v5, rfl, hb5, ho5, _⟩
  rw [HOK2.out]
  rw [HR2.out] at ho5
  have C5 := Lib.hid (C4.out.trans (hb5.mono C4.out.size))
  have I2d := Lib.hid (I2c.out.below hb5)
  have I3c := Lib.hid (I3b.out.below hb5)
  have I4b := Lib.hid (I4.out.below hb5)
  have I5 := Lib.hid (Rngs.of_own ho5)
  clear hb5 ho5
  go_wp2_with fail
  refine (samerg_any v2 v4 r1 r1 w5 I2d.out I4b.out (by omega) (by omega)).mono ?_
  rintro e w6 ⟨rfl, hb6⟩
  rw [hrr1]
  have C6 := Lib.hid (C5.out.trans (hb6.mono C5.out.size))
  have I3d := Lib.hid (I3c.out.below hb6)
  have I5b := Lib.hid (I5.out.below hb6)
  clear hb6
  go_wp2_with fail
  refine (samerg_any v3 v5 r2 r2 w6 I3d.out I5b.out (by omega) (by omega)).mono ?_
  rintro e w7 ⟨rfl, hb7⟩
  rw [hrr2]
  have C7 := Lib.hid (C6.out.trans (hb7.mono C6.out.size))
  clear hb7
  go_wp2_with fail
  refine (svalid_any _ l w7 (I1.out.below C7.out) (by omega)).mono ?_
  rintro e w8 ⟨rfl, hb8⟩
  have B8 := Lib.hid (B1.out.trans ((C7.out.trans (hb8.mono C7.out.size)).mono B1.out.size))
  clear hb8
  cases hv : rvalid l with
  | false =>
    obtain ⟨q1, q2⟩ := P1.out (.inl hv)
    subst q1 q2
    go_wp2_with fail
    go_ret
    exact ⟨rfl, B8.out⟩
  | true =>
    cases hs : spanOk lo hi with
    | false =>
      obtain ⟨q1, q2⟩ := P1.out (.inr hs)
      subst q1 q2
      have hnot : ¬ (0 ≤ lo ∧ lo ≤ hi ∧ hi ≤ 999) := of_decide_eq_false hs
      clear hs hv
      by_cases c1 : lo < 0
      · have d1 : decide (lo < 0) = true := decide_eq_true c1
        go_wp2_with fail
        go_ret
        exact ⟨rfl, B8.out⟩
      · have d1 : decide (lo < 0) = false := decide_eq_false c1
        by_cases c2 : hi < lo
        · have d2 : decide (hi < lo) = true := decide_eq_true c2
          go_wp2_with fail
          go_ret
          exact ⟨rfl, B8.out⟩
        · have d2 : decide (hi < lo) = false := decide_eq_false c2
          have c3 : 999 < hi := by omega
          have d3 : decide (999 < hi) = true := decide_eq_true c3
          clear hnot
          go_wp2_with fail
          go_ret
          exact ⟨rfl, B8.out⟩
    | true =>
      obtain ⟨q1, q2⟩ := P2.out hv hs
      have hyes : 0 ≤ lo ∧ lo ≤ hi ∧ hi ≤ 999 := of_decide_eq_true hs
      have d1 : decide (lo < 0) = false := decide_eq_false (by omega)
      have d2 : decide (hi < lo) = false := decide_eq_false (by omega)
      have d3 : decide (999 < hi) = false := decide_eq_false (by omega)
      have Q1 := Lib.hid q1
      have Q2 := Lib.hid q2
      obtain ⟨s0, s1, s2⟩ := hyes
      clear hs hv q1 q2
      cases ok1 with
      | true =>
        cases ok2 with
        | true =>
          go_wp2_with fail
          go_ret
          exact ⟨rfl, B8.out⟩
        | false =>
          have h16 : ((l.length : Int) == 16) = true := by have := Q2.out rfl; rw [this]; rfl
          go_wp2_with fail
          go_ret
          exact ⟨by first | rfl | (rw [h16]), B8.out⟩
      | false =>
        have h16 : ((l.length : Int) == 16) = true := by have := Q1.out rfl; rw [this]; rfl
        cases ok2 with
        | true =>
          go_wp2_with fail
          go_ret
          exact ⟨by first | rfl | (rw [h16]), B8.out⟩
        | false =>
          go_wp2_with fail
          go_ret
          exact ⟨by first | rfl | (rw [h16]), B8.out⟩

end Go.Proofs.Ytcjhbcibhcogjab
