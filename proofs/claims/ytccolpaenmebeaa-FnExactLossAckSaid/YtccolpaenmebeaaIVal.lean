/- The program's RangesValid. -/
import Derived.Test.YtccolpaenmebeaaRg
namespace Go.Proofs.Ytccolpaenmebeaa
open Go.RowKit
set_option linter.unusedVariables false
set_option linter.unusedSimpArgs false

theorem next_step (l : List (Int × Int)) (k : Nat) (h : k < l.length) (hv : vfrom 0 (l.take k) = true) :
    (vfrom 0 (l.take (k + 1)) = true ↔ (nextFrom 0 (l.take k) ≤ (l.getD k (0, 0)).1 ∧ (l.getD k (0, 0)).1 ≤ (l.getD k (0, 0)).2 ∧ (l.getD k (0, 0)).2 ≤ 999)) ∧ nextFrom 0 (l.take (k + 1)) = (l.getD k (0, 0)).2 + 2 := by
  rw [take_get l k h, vfrom_snoc, nextFrom_snoc]
  exact ⟨⟨fun z => z.2, fun z => ⟨hv, z⟩⟩, rfl⟩
theorem ret_rv {l : List (Int × Int)} (h : vfrom 0 l = false) : Ending.returned (.bool false) = .returned (.bool (rvalid l)) := ret_bool (by unfold rvalid; rw [h]; rfl)

set_option maxRecDepth 100000 in
set_option maxHeartbeats 2000000 in
theorem ivalid_any (v : Value) (l : List (Int × Int)) (w : World) (h : Rngs w v l) (hlen : l.length ≤ 1048576) :
    Calls Try.prog 49 #[v] w fun e w' => e = .returned (.bool (rvalid l)) ∧ Below w.heap.size w w' := by
  obtain ⟨a, c, rfl, h⟩ := h
  have HC := Lib.hid h
  clear h
  by_cases h16 : 16 < l.length
  · have h16' : (16 : Int) < (l.length : Int) := by omega
    have HX := Lib.hid (show rvalid l = false by unfold rvalid; rw [decide_eq_false (by omega)]; simp)
    go_enter Try.func49, Try.ntmps49
    go_wp2_with fail
    go_ret
    exact ⟨ret_bool HX.out.symm, Below.refl _ _⟩
  have h16' : ¬ (16 : Int) < (l.length : Int) := by omega
  go_enter Try.func49, Try.ntmps49
  go_wp2_with fail
  go_loopw [3, 5, 11] (fun lv rv iv wr => ∃ (k : Nat) (nx : Int), k ≤ l.length ∧ iv = .int .i64 k ∧ lv = .int .i64 nx ∧ Hid (vfrom 0 (l.take k) = true ∧ nextFrom 0 (l.take k) = nx) ∧ Below w.heap.size w wr) (fun _ _ iv _ => l.length - (intOf iv).toNat)
  case atStart => exact ⟨0, 0, Nat.zero_le _, rfl, rfl, ⟨rfl, rfl⟩, Below.refl _ _⟩
  case round =>
    obtain ⟨k, nx, hk, rfl, rfl, HV, hbel⟩ := hrel
    have HB := Lib.hid hbel
    clear hbel
    by_cases hlt : k < l.length
    · obtain ⟨g, o, rfl, hc⟩ := HC.out (by rintro rfl; simp at hlt)
      have b1 : (k : Int) < (l.length : Int) := by omega
      obtain ⟨e1, e2⟩ := hc k hlt
      have e1 := (HB.out.cell (World.block_lt_of_cell? w _ e1)).trans e1
      have e2 := (HB.out.cell (World.block_lt_of_cell? w _ e2)).trans e2
      have hst := next_step l k hlt HV.out.1
      rw [HV.out.2] at hst
      have HST := Lib.hid hst
      have HBD := Lib.hid (fun h => valid_bad l k hlt h)
      have HB2 := Lib.hid (HB.out.alloc HB.out.size (.cells #[.int .i64 (l.getD k (0, 0)).1, .int .i64 (l.getD k (0, 0)).2] 69))
      clear hc hst
      generalize (l.getD k (0, 0)).1 = x at e1 HST HB2
      generalize (l.getD k (0, 0)).2 = y at e2 HST HB2
      by_cases c1 : x < nx
      · have hd : decide (x < nx) = true := decide_eq_true c1
        have HF := Lib.hid (HBD.out fun h => by have := HST.out.1.1 h; omega)
        go_wp2_with fail
        go_ret
        exact ⟨ret_rv HF.out, HB2.out⟩
      · have hd : decide (x < nx) = false := decide_eq_false c1
        by_cases c2 : y < x
        · have hd2 : decide (y < x) = true := decide_eq_true c2
          have HF := Lib.hid (HBD.out fun h => by have := HST.out.1.1 h; omega)
          go_wp2_with fail
          go_ret
          exact ⟨ret_rv HF.out, HB2.out⟩
        · have hd2 : decide (y < x) = false := decide_eq_false c2
          by_cases c3 : 999 < y
          · have hd3 : decide (999 < y) = true := decide_eq_true c3
            have HF := Lib.hid (HBD.out fun h => by have := HST.out.1.1 h; omega)
            go_wp2_with fail
            go_ret
            exact ⟨ret_rv HF.out, HB2.out⟩
          · have hd3 : decide (999 < y) = false := decide_eq_false c3
            have HN := Lib.hid (HST.out.1.2 ⟨by omega, by omega, by omega⟩)
            have hnn := nextFrom_ge (l.take k) 0 HV.out.1
            rw [HV.out.2] at hnn
            have w2 : IntKind.i64.wrap (y + 2) = y + 2 := IntWalk.i64_in _ (by omega)
            go_wp2_with fail
            go_roundw
            case rel => exact ⟨k + 1, y + 2, by omega, by go_num, rfl, ⟨HN.out, HST.out.2⟩, HB2.out⟩
            case measure => simp [intOf]; omega
    · have he : vfrom 0 l = true := by
        have := HV.out.1
        rwa [List.take_of_length_le (by omega)] at this
      have HE := Lib.hid he
      clear he
      go_wp2_with fail
      go_ret
      exact ⟨ret_bool (by unfold rvalid; rw [HE.out]; simp; omega), HB.out⟩

end Go.Proofs.Ytccolpaenmebeaa
