/- The model's RangesCount. -/
import Derived.Test.YtcjhbcibhcogjabRg
import Derived.Test.YtcjhbcibhcogjabUnMath
namespace Go.Proofs.Ytcjhbcibhcogjab
open Go.RowKit
set_option linter.unusedVariables false
set_option linter.unusedSimpArgs false

theorem rcnt_app : ∀ (l m : List (Int × Int)), rcnt (l ++ m) = rcnt l + rcnt m
  | [], m => by simp [rcnt]
  | r :: t, m => by rw [List.cons_append, rcnt, rcnt, rcnt_app t m]; omega
theorem rcnt_take (l : List (Int × Int)) (k : Nat) (h : k < l.length) : rcnt (l.take (k + 1)) = rcnt (l.take k) + (l.getD k (0, 0)).2 - (l.getD k (0, 0)).1 + 1 := by
  rw [take_get l k h, rcnt_app]; simp only [rcnt]; omega
theorem rcnt_le1 : ∀ {l : List (Int × Int)} {b : Int}, vfrom b l = true → b ≤ 1000 → rcnt l ≤ 1000 - b ∧ 0 ≤ rcnt l
  | [], b, _, h => by simp only [rcnt]; omega
  | r :: t, b, h, hb => by
    rw [vfrom_cons] at h
    rw [rcnt]
    by_cases h2 : r.2 + 2 ≤ 1000
    · have := rcnt_le1 (l := t) h.2 h2; omega
    · cases t with
      | nil => simp only [rcnt]; omega
      | cons s u => have := h.2; rw [vfrom_cons] at this; omega
theorem rcnt_take_le {l : List (Int × Int)} (hv : vfrom 0 l = true) (k : Nat) : 0 ≤ rcnt (l.take k) ∧ rcnt (l.take k) ≤ 1000 := by
  have : vfrom 0 (l.take k) = true := by rw [← List.take_append_drop k l] at hv; exact vfrom_part _ _ _ hv
  have := rcnt_le1 this (by omega)
  omega
def rcount (l : List (Int × Int)) : Int := if rvalid l then rcnt l else -1

set_option maxRecDepth 100000 in
set_option maxHeartbeats 2000000 in
theorem scount_any (v : Value) (l : List (Int × Int)) (w : World) (h : Rngs w v l) (hlen : l.length ≤ 1048576) :
    Calls Try.prog 30 #[v] w fun e w' => e = .returned (.int .i64 (rcount l)) ∧ Below w.heap.size w w' := by
  have HR := Lib.hid h
  obtain ⟨a, c, rfl, h⟩ := h
  have HC := Lib.hid h
  clear h
  go_enter Try.func30, Try.ntmps30
  go_wp2_with fail
  refine (svalid_any _ l w HR.out hlen).mono ?_
  rintro e w1 ⟨rfl, hb1⟩
  have B1 := Lib.hid hb1
  clear hb1
  cases h1 : rvalid l with
  | false =>
    have HX := Lib.hid (show rcount l = -1 by unfold rcount; rw [h1]; rfl)
    clear h1
    go_wp2_with fail
    go_ret
    exact ⟨by rw [HX.out]; rfl, B1.out⟩
  | true =>
    have HX := Lib.hid (show rcount l = rcnt l by unfold rcount; rw [h1]; rfl)
    have HV := Lib.hid (rvalid_parts h1).1
    clear h1
    go_wp2_with fail
    go_loopw [3, 4] (fun nv iv wr => ∃ (k : Nat) (cn : Int), k ≤ l.length ∧ iv = .int .i64 k ∧ nv = .int .i64 cn ∧ Hid (rcnt (l.take k) = cn) ∧ Below w.heap.size w wr) (fun _ iv _ => l.length - (intOf iv).toNat)
    case atStart => exact ⟨0, 0, Nat.zero_le _, rfl, rfl, rfl, B1.out⟩
    case round =>
      obtain ⟨k, cn, hk, rfl, rfl, HF, hbel⟩ := hrel
      have HB := Lib.hid hbel
      have hcn := rcnt_take_le HV.out k
      rw [HF.out] at hcn
      clear hbel
      by_cases hlt : k < l.length
      · obtain ⟨g, o, rfl, hc⟩ := HC.out (by rintro rfl; simp at hlt)
        have b1 : (k : Int) < (l.length : Int) := by omega
        obtain ⟨e1, e2⟩ := hc k hlt
        have e1 := (HB.out.cell (World.block_lt_of_cell? w _ e1)).trans e1
        have e2 := (HB.out.cell (World.block_lt_of_cell? w _ e2)).trans e2
        have hst := rcnt_take l k hlt
        rw [HF.out] at hst
        have HST := Lib.hid hst
        have hel := vfrom_els HV.out (l.getD k (0, 0)) (by rw [List.getD_eq_getElem?_getD, List.getElem?_eq_getElem hlt]; exact List.getElem_mem hlt)
        clear hc hst
        generalize (l.getD k (0, 0)).1 = x at e1 HST hel
        generalize (l.getD k (0, 0)).2 = y at e2 HST hel
        obtain ⟨x0, xy, y9⟩ := hel
        obtain ⟨cn0, cn1⟩ := hcn
        have w1 : IntKind.i64.wrap (cn + y) = cn + y := IntWalk.i64_in _ (by omega)
        have w2 : IntKind.i64.wrap (cn + y - x) = cn + y - x := IntWalk.i64_in _ (by omega)
        have w3 : IntKind.i64.wrap (cn + y - x + 1) = cn + y - x + 1 := IntWalk.i64_in _ (by omega)
        go_wp2_with fail
        go_quiet (fail)
        go_wp2_with fail
        go_roundw
        case rel => exact ⟨k + 1, _, by omega, by go_num, rfl, HST.out, below_drewN' HB.out _⟩
        case measure => simp [intOf]; omega
      · have he : rcnt l = cn := by
          have := HF.out
          rwa [List.take_of_length_le (by omega)] at this
        have HE := Lib.hid he
        clear he
        go_wp2_with fail
        go_ret
        exact ⟨by rw [HX.out, HE.out]; rfl, HB.out⟩

end Go.Proofs.Ytcjhbcibhcogjab
