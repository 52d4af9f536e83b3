/- The model's RangesRemove. -/
import Derived.Test.YtcjhbcibhcogjabSAdd
import Derived.Test.YtcjhbcibhcogjabRem
namespace Go.Proofs.Ytcjhbcibhcogjab
open Go.RowKit
set_option linter.unusedVariables false
set_option linter.unusedSimpArgs false

def rremOk (l : List (Int × Int)) (lo hi : Int) : Bool := rvalid l && spanOk lo hi && decide ((lrem l lo hi).length ≤ 16)
def rrem (l : List (Int × Int)) (lo hi : Int) : List (Int × Int) := if rremOk l lo hi then lrem l lo hi else []
theorem lrem_len : ∀ (l : List (Int × Int)) (lo hi : Int), (lrem l lo hi).length ≤ 2 * l.length
  | [], lo, hi => by simp [lrem]
  | r :: t, lo, hi => by
    have ih := lrem_len t lo hi
    have h1 : (remOne lo hi r).length ≤ 2 := by unfold remOne; split <;> split <;> simp
    rw [lrem_cons, List.length_append, List.length_cons]
    omega

set_option maxRecDepth 100000 in
set_option maxHeartbeats 1000000 in
theorem srrem_any (v : Value) (l : List (Int × Int)) (lo hi : Int) (w : World) (h : Rngs w v l) (hlen : l.length ≤ 1048576) :
    Calls Try.prog 15 #[v, .int .i64 lo, .int .i64 hi] w (RgPost w (rrem l lo hi) (rremOk l lo hi)) := by
  have HR := Lib.hid h
  clear h
  go_enter Try.func15, Try.ntmps15
  go_wp2_with fail
  refine (svalid_any v l w HR.out hlen).mono ?_
  rintro e w1 ⟨rfl, hb1⟩
  have B1 := Lib.hid hb1
  have HR1 := Lib.hid (HR.out.below hb1)
  clear hb1
  cases hv : rvalid l with
  | false =>
    have HX := Lib.hid (show rremOk l lo hi = false by unfold rremOk; rw [hv]; rfl)
    have HY := Lib.hid (show rrem l lo hi = [] by unfold rrem; rw [HX.out]; rfl)
    clear hv
    go_wp2_with fail
    go_ret2
    rw [HX.out, HY.out]
    exact RgPost.none B1.out
  | true =>
    cases hs : spanOk lo hi with
    | false =>
      have HX := Lib.hid (show rremOk l lo hi = false by unfold rremOk; rw [hv, hs]; rfl)
      have HY := Lib.hid (show rrem l lo hi = [] by unfold rrem; rw [HX.out]; rfl)
      have HS := Lib.hid hs
      clear hv hs
      go_wp2_with fail
      refine (sspan_any lo hi w1).mono ?_
      rw [HS.out]
      rintro e w2 ⟨rfl, rfl⟩
      go_wp2_with fail
      go_ret2
      rw [HX.out, HY.out]
      exact RgPost.none B1.out
    | true =>
      have HV := Lib.hid (show vfrom 0 l = true by unfold rvalid at hv; rw [Bool.and_eq_true] at hv; exact hv.1)
      have HS := Lib.hid hs
      have hsp : 0 ≤ lo ∧ lo ≤ hi ∧ hi ≤ 999 := by unfold spanOk at hs; exact of_decide_eq_true hs
      have HL := Lib.hid (lrem_len l lo hi)
      have hl16 : l.length ≤ 16 := by unfold rvalid at hv; rw [Bool.and_eq_true, decide_eq_true_eq] at hv; exact hv.2
      have hll : (lrem l lo hi).length ≤ 32 := by have := HL.out; omega
      have HXX := Lib.hid (show rremOk l lo hi = decide ((lrem l lo hi).length ≤ 16) by unfold rremOk; rw [hv, hs]; rfl)
      obtain ⟨s0, s1, s2⟩ := hsp
      clear hv hs
      go_wp2_with fail
      refine (sspan_any lo hi w1).mono ?_
      rw [HS.out]
      rintro e w2 ⟨rfl, rfl⟩
      go_wp2_with fail
      refine (srem_any v l lo hi w1 HR1.out hlen ⟨by omega, by omega⟩ ⟨by omega, by omega⟩).mono ?_
      rintro e w3 ⟨v3, rfl, hb3, ho3, hn3⟩
      have B3 := Lib.hid (B1.out.trans (hb3.mono B1.out.size))
      have O3 := Lib.hid (ho3.lower B1.out.size)
      have N3 := Lib.hid hn3
      obtain ⟨la, lc, rfl⟩ := ownsRow_shape ho3
      clear hb3 ho3 hn3
      by_cases h16 : 16 < (lrem l lo hi).length
      · have h16' : (16 : Int) < ((lrem l lo hi).length : Int) := by omega
        have HX := Lib.hid (show rremOk l lo hi = false by rw [HXX.out]; exact decide_eq_false (by omega))
        have HY := Lib.hid (show rrem l lo hi = [] by unfold rrem; rw [HX.out]; rfl)
        go_wp2_with fail
        go_ret2
        rw [HX.out, HY.out]
        exact RgPost.none B3.out
      · have h16' : ¬ (16 : Int) < ((lrem l lo hi).length : Int) := by omega
        have HX := Lib.hid (show rremOk l lo hi = true by rw [HXX.out]; exact decide_eq_true (by omega))
        have HY := Lib.hid (show rrem l lo hi = lrem l lo hi by unfold rrem; rw [HX.out]; rfl)
        go_wp2_with fail
        go_ret2
        rw [HX.out, HY.out]
        exact ⟨_, rfl, B3.out, O3.out, N3.out⟩


end Go.Proofs.Ytcjhbcibhcogjab
