/- The exact law FnExactWindowAck: the walk. -/
import Derived.Test.YtfggldholaibeaaEqWs
import Derived.Test.YtfggldholaibeaaMkWs
import Derived.Test.YtfggldholaibeaaRowW
import Derived.Test.YtfggldholaibeaaWImp
import Derived.Test.YtfggldholaibeaaWSw
namespace Go.Proofs.Ytfggldholaibeaa
open Go.RowKit
set_option linter.unusedVariables false
set_option linter.unusedSimpArgs false

theorem OwnW.kept {w w' : World} {B : Nat} {v : Value} {l : List Wd} {row : Option Nat} (h : OwnW w B v l) (hg : w.grownBy w' row) (hr : v.ownBlock = none ∨ v.ownBlock ≠ row) : OwnW w' B v l := World.ownsRow.kept h hg hr
theorem apart {W : World} {B S : Nat} {va vb : Value} {la lb : List Wd} (hlt : ∀ q, va.ownBlock = some q → q < S) (hb : OwnW W S vb lb) : (va.ownBlock = none ∨ va.ownBlock ≠ vb.ownBlock) ∧ (vb.ownBlock = none ∨ vb.ownBlock ≠ va.ownBlock) := by
  constructor
  · cases hq : va.ownBlock with
    | none => exact .inl rfl
    | some q => exact .inr fun e => by have h1 := hlt q hq; have h2 := (World.ownsRow.lt hb q e.symm).1; omega
  · cases hq : vb.ownBlock with
    | none => exact .inl rfl
    | some q => exact .inr fun e => by have h1 := hlt q e.symm; have h2 := (World.ownsRow.lt hb q hq).1; omega
theorem OwnW.below_lt {W : World} {B : Nat} {v : Value} {l : List Wd} (h : OwnW W B v l) : ∀ q, v.ownBlock = some q → q < W.heap.size := fun q e => (World.ownsRow.lt h q e).2

set_option maxRecDepth 100000 in
set_option maxHeartbeats 8000000 in
theorem exwa_walk (a : Option Addr) (len cap : Nat) (l : List Wd) (i : Int) (w : World) (hn : l.length = len ∧ len ≤ 9223372036854775807) (h : Wds w (.slice a len cap) l) :
    Calls Try.prog 5 #[.slice a len cap, .int .i64 i] w fun e w' => e = .returned (.bool true) ∧ Below w.heap.size w w' := by
  obtain ⟨rfl, hlm⟩ := hn
  have HSZ := Lib.hid (szw_any a l.length cap 1048576 w (by omega) (by omega) hlm)
  by_cases hbig : (1048576 : Int) < (l.length : Int)
  · rw [if_pos hbig] at HSZ
    clear h hbig
    go_enter Try.func5, Try.ntmps5
    go_wp2_with fail
    refine HSZ.out.mono ?_
    rintro e w1 ⟨rfl, rfl⟩
    go_wp2_with fail
    go_ret
    exact ⟨rfl, Below.refl _ _⟩
  rw [if_neg hbig] at HSZ
  have hl : l.length ≤ 1048576 := by omega
  obtain ⟨z, hz⟩ : ∃ z : Int, 1048576 - (l.length : Int) = z := ⟨_, rfl⟩
  rw [hz] at HSZ
  have hz' : ¬ z < 0 := by omega
  have TOR := Lib.hid (fun (W : World) (hb : Below w.heap.size w W) => tows_any (.slice a l.length cap) l W (h.below hb) hl)
  have hll : (l == l) = true := beq_self_eq_true l
  have HLL := Lib.hid hll
  clear h hbig hz hll
  obtain ⟨r, hr⟩ : ∃ r, wackv l i = r := ⟨_, rfl⟩
  have hrl : r.length ≤ l.length := by
    rw [← hr]; unfold wackv wack
    split
    · rw [List.length_set]; exact Nat.le_refl _
    · simp
  have hr4 : r.length ≤ 1048576 := by omega
  have HR := Lib.hid hr
  have HRR := Lib.hid (beq_self_eq_true r)
  have HRL := Lib.hid hrl
  obtain ⟨q, hq⟩ : ∃ q, decide (wat l i) = q := ⟨_, rfl⟩
  have HQ := Lib.hid hq
  have hqq : (q != q) = false := by cases q <;> rfl
  clear hr hrl hq
  go_enter Try.func5, Try.ntmps5
  go_wp2_with fail
  refine HSZ.out.mono ?_
  rintro e w1 ⟨rfl, hw⟩
  rw [← hw]
  clear hw
  have B1 := Lib.hid (Below.refl w.heap.size w)
  go_wp2_with fail
  -- the model's answer
  refine (TOR.out _ B1.out).mono ?_
  rintro e w2 ⟨v1, rfl, hb, ho, _⟩
  have B2 := Lib.hid hb
  have C1 := Lib.hid (swa_any v1 l i w2 ho.pks hl)
  rw [HR.out, HQ.out] at C1
  obtain ⟨a1, c1, rfl⟩ := ho.shape
  clear hb ho
  go_wp2_with fail
  refine C1.out.mono ?_
  rintro e w3 ⟨vw, rfl, how, _, hb⟩
  have B3 := Lib.hid (B2.out.trans (hb.mono B2.out.size))
  have OW3 := Lib.hid how
  have LW := Lib.hid how.below_lt
  obtain ⟨aw, cw, rfl⟩ := how.shape
  clear hb how C1
  go_wp2_with fail
  -- the copy
  refine (TOR.out _ B3.out).mono ?_
  rintro e w4 ⟨vx, rfl, hb, hox, _⟩
  have B4 := Lib.hid (B3.out.trans (hb.mono B3.out.size))
  have OW4 := Lib.hid (OW3.out.below hb)
  have OX4 := Lib.hid hox
  have HS34 := Lib.hid hb.size
  have LX := Lib.hid hox.below_lt
  have C2 := Lib.hid (iwa_any vx l i w4 hox.pks hl)
  rw [HR.out, HQ.out] at C2
  obtain ⟨ax, cx, rfl⟩ := hox.shape
  clear hb hox OW3
  go_wp2_with fail
  -- the program's answer
  refine C2.out.mono ?_
  rintro e w5 ⟨vg, rfl, hog, _, hb⟩
  have B5 := Lib.hid (B4.out.trans (hb.mono B4.out.size))
  have OW5 := Lib.hid (OW4.out.below hb)
  have OX5 := Lib.hid (OX4.out.below hb)
  have OG5 := Lib.hid hog
  have LG := Lib.hid hog.below_lt
  obtain ⟨ag, cg, rfl⟩ := hog.shape
  clear hb hog OW4 OX4 C2
  have C3 := Lib.hid (eqws_any _ _ r r w5 OG5.out.pks OW5.out.pks hr4 hr4)
  rw [HRR.out] at C3
  go_wp2_with fail
  refine C3.out.mono ?_
  rintro e w6 ⟨rfl, hb⟩
  have B6 := Lib.hid (B5.out.trans (hb.mono B5.out.size))
  have OW6 := Lib.hid (OW5.out.below hb)
  have OX6 := Lib.hid (OX5.out.below hb)
  have OG6 := Lib.hid (OG5.out.below hb)
  clear hb OW5 OX5 OG5 C3
  go_wp2_with fail
  refine (TOR.out _ B6.out).mono ?_
  rintro e w7 ⟨v4, rfl, hb, ho, _⟩
  have B7 := Lib.hid (B6.out.trans (hb.mono B6.out.size))
  have OW7 := Lib.hid (OW6.out.below hb)
  have OX7 := Lib.hid (OX6.out.below hb)
  have OG7 := Lib.hid (OG6.out.below hb)
  have C4 := Lib.hid (eqws_any _ _ l l w7 OX7.out.pks ho.pks hl hl)
  rw [HLL.out] at C4
  obtain ⟨a4, c4, rfl⟩ := ho.shape
  clear hb ho OW6 OX6 OG6
  go_wp2_with fail
  refine C4.out.mono ?_
  rintro e w8 ⟨rfl, hb⟩
  have B8 := Lib.hid (B7.out.trans (hb.mono B7.out.size))
  have OW8 := Lib.hid (OW7.out.below hb)
  have OX8 := Lib.hid (OX7.out.below hb)
  have OG8 := Lib.hid (OG7.out.below hb)
  clear hb OW7 OX7 OG7 C4
  have M1 := Lib.hid (markw_any _ l w3.heap.size w8 OX8.out hl)
  have hk1 : ¬ (1 + 4 * (l.length : Int)) < 0 := by omega
  go_wp2_with fail
  -- the copy is marked
  refine M1.out.mono ?_
  rintro e w9 ⟨rfl, hg, hox⟩
  have G9 := Lib.hid (OG8.out.kept hg (apart (B := 0) (la := []) LX.out OG8.out).2)
  have W9 := Lib.hid (OW8.out.kept hg (apart (B := 0) (la := []) LW.out OX8.out).1)
  have B9 := Lib.hid (B8.out.grown hg B8.out.size (fun q e => by have := (World.ownsRow.lt OX8.out q e).1; have := B3.out.size; omega))
  clear hg hox M1 OW8 OX8 OG8
  have C5 := Lib.hid (eqws_any _ _ r r w9 G9.out.pks W9.out.pks hr4 hr4)
  rw [HRR.out] at C5
  obtain ⟨kk, hkk⟩ : ∃ kk : Int, 1 + 4 * (l.length : Int) = kk := ⟨_, rfl⟩
  rw [hkk] at hk1 ⊢
  clear hkk
  go_wp2_with fail
  refine C5.out.mono ?_
  rintro e w10 ⟨rfl, hb⟩
  have B10 := Lib.hid (B9.out.trans (hb.mono B9.out.size))
  have W10 := Lib.hid (W9.out.below hb)
  have G10 := Lib.hid (G9.out.below hb)
  clear hb W9 G9 C5
  have M2 := Lib.hid (markw_any _ r w4.heap.size w10 G10.out hr4)
  go_wp2_with fail
  -- the answer is marked
  refine M2.out.mono ?_
  rintro e w11 ⟨rfl, hg, hog⟩
  have G11 := Lib.hid hog
  have W11 := Lib.hid (W10.out.kept hg (apart (B := 0) (la := []) (fun q e => by have h1 := LW.out q e; have h2 := HS34.out; exact Nat.lt_of_lt_of_le h1 h2) G10.out).1)
  have B11 := Lib.hid (B10.out.grown hg B10.out.size (fun q e => by have := (World.ownsRow.lt G10.out q e).1; have := B4.out.size; omega))
  clear hg hog M2 W10 G10
  have H1 := Lib.hid (heldw_any _ r.length w11 G11.out.pks hr4)
  obtain ⟨mm, hmm⟩ : ∃ mm : Int, 1 + 4 * (r.length : Int) = mm := ⟨_, rfl⟩
  have hm1 : ¬ mm < 0 := by omega
  rw [hmm] at H1 ⊢
  have HMM := Lib.hid hmm
  clear hmm
  go_wp2_with fail
  refine H1.out.mono ?_
  rintro e w12 ⟨rfl, hw⟩
  rw [← hw]
  clear hw H1
  go_wp2_with fail
  -- once more
  refine (TOR.out _ B11.out).mono ?_
  rintro e w13 ⟨v5, rfl, hb, ho, _⟩
  have B13 := Lib.hid (B11.out.trans (hb.mono B11.out.size))
  have W13 := Lib.hid (W11.out.below hb)
  have G13 := Lib.hid (G11.out.below hb)
  have C6 := Lib.hid (iwa_any v5 l i w13 ho.pks hl)
  rw [HR.out, HQ.out] at C6
  obtain ⟨a5, c5, rfl⟩ := ho.shape
  clear hb ho W11 G11
  go_wp2_with fail
  refine C6.out.mono ?_
  rintro e w14 ⟨vh, rfl, hoh, _, hb⟩
  have B14 := Lib.hid (B13.out.trans (hb.mono B13.out.size))
  have W14 := Lib.hid (W13.out.below hb)
  have G14 := Lib.hid (G13.out.below hb)
  have C7 := Lib.hid (eqws_any _ _ r r w14 hoh.pks W14.out.pks hr4 hr4)
  rw [HRR.out] at C7
  obtain ⟨ah, ch, rfl⟩ := hoh.shape
  clear hb hoh W13 G13 C6
  go_wp2_with fail
  refine C7.out.mono ?_
  rintro e w15 ⟨rfl, hb⟩
  have B15 := Lib.hid (B14.out.trans (hb.mono B14.out.size))
  have H2 := Lib.hid (heldw_any _ r.length w15 (G14.out.below hb).pks hr4)
  rw [HMM.out] at H2
  clear hb C7
  go_wp2_with fail
  refine H2.out.mono ?_
  rintro e w16 ⟨rfl, hw⟩
  rw [← hw]
  clear hw H2
  go_wp2_with fail
  go_ret
  exact ⟨rfl, B15.out⟩
end Go.Proofs.Ytfggldholaibeaa
