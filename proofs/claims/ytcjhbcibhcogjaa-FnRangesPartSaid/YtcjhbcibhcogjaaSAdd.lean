/- The model's l2Span and RangesAdd; the drawn arguments of RangesAdd. -/
import Derived.Test.YtcjhbcibhcogjaaDrawRg
namespace Go.Proofs.Ytcjhbcibhcogjaa
open Go.RowKit
set_option linter.unusedVariables false
set_option linter.unusedSimpArgs false

def spanOk (lo hi : Int) : Bool := decide (0 ≤ lo ∧ lo ≤ hi ∧ hi ≤ 999)
def raddOk (l : List (Int × Int)) (lo hi : Int) : Bool := rvalid l && spanOk lo hi && decide ((ladd l lo hi).length ≤ 16)
def radd (l : List (Int × Int)) (lo hi : Int) : List (Int × Int) := if raddOk l lo hi then ladd l lo hi else []

/-- A list in new memory, and whether it stands. -/
def RgPost (w : World) (l : List (Int × Int)) (ok : Bool) (e : Ending) (w' : World) : Prop :=
  ∃ v : Value, e = .returned (.tuple #[v, .bool ok]) ∧ Below w.heap.size w w' ∧ OwnRg w' w.heap.size v l ∧ v ≠ .slice none 0 0

set_option maxRecDepth 100000 in
set_option maxHeartbeats 400000 in
theorem sspan_any (lo hi : Int) (w : World) : Calls Try.prog 39 #[.int .i64 lo, .int .i64 hi] w fun e w' => e = .returned (.bool (spanOk lo hi)) ∧ w = w' := by
  by_cases h1 : 0 ≤ lo
  · by_cases h2 : lo ≤ hi
    all_goals
      go_enter Try.func39, Try.ntmps39
      go_wp2
      all_goals
        go_ret
        exact ⟨ret_bool (by unfold spanOk; first | (simp; done) | (rw [Bool.eq_iff_iff, decide_eq_true_eq, decide_eq_true_eq]; omega) | (simp; omega)), rfl⟩
  · go_enter Try.func39, Try.ntmps39
    go_wp2
    all_goals
      go_ret
      exact ⟨ret_bool (by unfold spanOk; first | (simp; done) | (rw [Bool.eq_iff_iff, decide_eq_true_eq, decide_eq_true_eq]; omega) | (simp; omega)), rfl⟩

theorem RgPost.none {w w1 : World} (hb : Below w.heap.size w w1) : RgPost w [] false (.returned (.tuple #[.slice (some ⟨w1.heap.size, 0, none⟩) 0 0, .bool false])) (w1.alloc (.cells #[] 40)) :=
  ⟨_, rfl, hb.alloc hb.size _, own_new _ _ _ _ hb.size, by simp⟩

set_option maxRecDepth 100000 in
set_option maxHeartbeats 1000000 in
theorem sradd_any (v : Value) (l : List (Int × Int)) (lo hi : Int) (w : World) (h : Rngs w v l) (hlen : l.length ≤ 1048576) :
    Calls Try.prog 17 #[v, .int .i64 lo, .int .i64 hi] w (RgPost w (radd l lo hi) (raddOk l lo hi)) := by
  have HR := Lib.hid h
  clear h
  go_enter Try.func17, Try.ntmps17
  go_wp2_with fail
  refine (svalid_any v l w HR.out hlen).mono ?_
  rintro e w1 ⟨rfl, hb1⟩
  have B1 := Lib.hid hb1
  have HR1 := Lib.hid (HR.out.below hb1)
  clear hb1
  cases hv : rvalid l with
  | false =>
    have HX := Lib.hid (show raddOk l lo hi = false by unfold raddOk; rw [hv]; rfl)
    have HY := Lib.hid (show radd l lo hi = [] by unfold radd; rw [HX.out]; rfl)
    clear hv
    go_wp2_with fail
    go_ret2
    rw [HX.out, HY.out]
    exact RgPost.none B1.out
  | true =>
    cases hs : spanOk lo hi with
    | false =>
      have HX := Lib.hid (show raddOk l lo hi = false by unfold raddOk; rw [hv, hs]; rfl)
      have HY := Lib.hid (show radd l lo hi = [] by unfold radd; rw [HX.out]; rfl)
      have HS := Lib.hid hs
      clear hv hs
      go_wp2_with fail
      refine (sspan_any lo hi w1).mono ?_
      rw [HS.out]
      rintro e w2 ⟨rfl, rfl⟩
      go_wp2_with fail
      go_ret2
      rw [HX.out, HY.out]
      exact RgPost.none B1.out
    | true =>
      have HV := Lib.hid (show vfrom 0 l = true by unfold rvalid at hv; rw [Bool.and_eq_true] at hv; exact hv.1)
      have HS := Lib.hid hs
      have hsp : 0 ≤ lo ∧ lo ≤ hi ∧ hi ≤ 999 := by unfold spanOk at hs; exact of_decide_eq_true hs
      have HL := Lib.hid (add_valid l lo hi HV.out hsp.1 hsp.2.1 hsp.2.2)
      have hl16 : l.length ≤ 16 := by unfold rvalid at hv; rw [Bool.and_eq_true, decide_eq_true_eq] at hv; exact hv.2
      have hll : (ladd l lo hi).length ≤ 17 := by have := HL.out.2; omega
      have HXX := Lib.hid (show raddOk l lo hi = decide ((ladd l lo hi).length ≤ 16) by unfold raddOk; rw [hv, hs]; rfl)
      obtain ⟨s0, s1, s2⟩ := hsp
      clear hv hs
      go_wp2_with fail
      refine (sspan_any lo hi w1).mono ?_
      rw [HS.out]
      rintro e w2 ⟨rfl, rfl⟩
      go_wp2_with fail
      refine (sadd_any v l lo hi w1 HR1.out hlen ⟨by omega, by omega⟩ ⟨by omega, by omega⟩ (vfrom_bnd l 0 (Int.le_refl _) HV.out)).mono ?_
      rintro e w3 ⟨v3, rfl, hb3, ho3, hn3⟩
      have B3 := Lib.hid (B1.out.trans (hb3.mono B1.out.size))
      have O3 := Lib.hid (ho3.lower B1.out.size)
      have N3 := Lib.hid hn3
      obtain ⟨la, lc, rfl⟩ := ownsRow_shape ho3
      clear hb3 ho3 hn3
      by_cases h16 : 16 < (ladd l lo hi).length
      · have h16' : (16 : Int) < ((ladd l lo hi).length : Int) := by omega
        have HX := Lib.hid (show raddOk l lo hi = false by rw [HXX.out]; exact decide_eq_false (by omega))
        have HY := Lib.hid (show radd l lo hi = [] by unfold radd; rw [HX.out]; rfl)
        go_wp2_with fail
        go_ret2
        rw [HX.out, HY.out]
        exact RgPost.none B3.out
      · have h16' : ¬ (16 : Int) < ((ladd l lo hi).length : Int) := by omega
        have HX := Lib.hid (show raddOk l lo hi = true by rw [HXX.out]; exact decide_eq_true (by omega))
        have HY := Lib.hid (show radd l lo hi = ladd l lo hi by unfold radd; rw [HX.out]; rfl)
        go_wp2_with fail
        go_ret2
        rw [HX.out, HY.out]
        exact ⟨_, rfl, B3.out, O3.out, N3.out⟩

def GotRgTwo (w : World) (e : Ending) (w' : World) : Prop :=
  ∃ (v : Value) (l : List (Int × Int)) (lo hi : Int), l.length ≤ 17 ∧ e = .returned (.tuple #[v, .int .i64 lo, .int .i64 hi]) ∧ (-1000000 ≤ lo ∧ lo ≤ 1000000) ∧ (-1000000 ≤ hi ∧ hi ≤ 1000000) ∧ Below w.heap.size w w' ∧ OwnRg w' w.heap.size v l ∧ v ≠ .slice none 0 0
theorem below_grown {w w1 w2 : World} (h : Below w.heap.size w w1) (hg : w1.grownBy w2 (some w.heap.size)) : Below w.heap.size w w2 :=
  h.grown hg h.size (fun k e => by injection e with e; omega)

set_option maxRecDepth 100000 in
set_option maxHeartbeats 400000 in
theorem drawAdd_any (a : Option Addr) (len cap : Nat) (zs : List Int) (w : World) (h : IsRow .u8 w a len cap zs) :
    Calls Try.prog 15 #[.slice a len cap] w (GotRgTwo w) := by
  have H := Lib.hid h
  clear h
  go_enter Try.func15, Try.ntmps15
  go_wp2_with fail
  refine (open_any a len cap zs w H.out).mono ?_
  rintro e w1 ⟨rfl, hb, hR⟩
  have B1 := Lib.hid hb
  have hlt := hR.1
  clear hb
  go_wp2_with fail
  refine (ranges_any _ 0 _ hR (by omega)).mono ?_
  rintro e w2 ⟨v, l, ⟨_, hl⟩, rfl, hg, hR2, ho, hn⟩
  have B2 := Lib.hid (below_grown B1.out hg)
  have O2 := Lib.hid ho
  have N2 := Lib.hid hn
  clear hg ho hn
  go_wp2_with fail
  refine (span_any _ _ _ hR2 (by omega)).mono ?_
  rintro e w3 ⟨x, y, ⟨⟨x0, x1⟩, y0, y1⟩, rfl, hg3, hR3⟩
  have B3 := Lib.hid (B2.out.grown hg3 B2.out.size (fun k e => by injection e with e; omega))
  have O3 := Lib.hid ((O2.out.picked hg3 hlt).lower B1.out.size)
  clear hg3
  go_wp2_with fail
  go_ret3
  exact ⟨v, l, x, y, hl, rfl, ⟨by omega, by omega⟩, ⟨by omega, by omega⟩, B3.out, O3.out, N2.out⟩

end Go.Proofs.Ytcjhbcibhcogjaa
