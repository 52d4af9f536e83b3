/- Slices of ranges that are read; the model's RangesValid. -/
import Derived.Test.YtccolpaenmebeaaOwn
import Derived.Test.YtccolpaenmebeaaRgMath
import Derived.Deep.QuietTactic
import Derived.BigQuiet
import Derived.IntWalk
namespace Go.Proofs.Ytccolpaenmebeaa
open Go.RowKit
set_option linter.unusedVariables false
set_option linter.unusedSimpArgs false

/-- A slice whose elements read as the ranges l. -/
def Rngs (w : World) (v : Value) (l : List (Int × Int)) : Prop :=
  ∃ a c, v = .slice a l.length c ∧ (l ≠ [] → ∃ g o, a = some ⟨g, o, none⟩ ∧ ∀ i, i < l.length → w.cell? ⟨g, o + i * 2, none⟩ = some (.int .i64 (l.getD i (0, 0)).1) ∧ w.cell? ⟨g, o + i * 2 + 1, none⟩ = some (.int .i64 (l.getD i (0, 0)).2))

theorem Rngs.below {w w' : World} {v : Value} {l : List (Int × Int)} (h : Rngs w v l) (hb : Below w.heap.size w w') : Rngs w' v l := by
  obtain ⟨a, c, rfl, h⟩ := h
  refine ⟨a, c, rfl, fun hx => ?_⟩
  obtain ⟨g, o, rfl, hc⟩ := h hx
  exact ⟨g, o, rfl, fun i hi => ⟨(hb.cell (World.block_lt_of_cell? w _ (hc i hi).1)).trans (hc i hi).1, (hb.cell (World.block_lt_of_cell? w _ (hc i hi).2)).trans (hc i hi).2⟩⟩

set_option maxHeartbeats 2000000 in
theorem svalid_any (v : Value) (l : List (Int × Int)) (w : World) (h : Rngs w v l) (hlen : l.length ≤ 1048576) :
    Calls Try.prog 46 #[v] w fun e w' => e = .returned (.bool (rvalid l)) ∧ Below w.heap.size w w' := by
  obtain ⟨a, c, rfl, h⟩ := h
  have HC := Lib.hid h
  clear h
  go_enter Try.func46, Try.ntmps46
  go_wp2_with fail
  go_loopw [3] (fun iv wr => ∃ k : Nat, k ≤ l.length ∧ iv = .int .i64 k ∧ Hid (vfrom 0 (l.take k) = true) ∧ Below w.heap.size w wr) (fun iv _ => l.length - (intOf iv).toNat)
  case atStart => exact ⟨0, Nat.zero_le _, rfl, rfl, Below.refl _ _⟩
  case round =>
    obtain ⟨k, hk, rfl, HV, hbel⟩ := hrel
    have HB := Lib.hid hbel
    clear hbel
    by_cases hlt : k < l.length
    · obtain ⟨g, o, rfl, hc⟩ := HC.out (by rintro rfl; simp at hlt)
      have b1 : (k : Int) < (l.length : Int) := by omega
      obtain ⟨e1, e2⟩ := hc k hlt
      have e1 := (HB.out.cell (World.block_lt_of_cell? w _ e1)).trans e1
      have e2 := (HB.out.cell (World.block_lt_of_cell? w _ e2)).trans e2
      have HST := Lib.hid (valid_step l k hlt HV.out)
      have HBD := Lib.hid (fun h => valid_bad l k hlt h)
      have HCC := Lib.hid hc
      have HLS := Lib.hid (fun h0 => valid_last l k hlt h0 HV.out)
      clear hc
      generalize (l.getD k (0, 0)).1 = x at e1 HST
      generalize (l.getD k (0, 0)).2 = y at e2 HST
      by_cases c1 : x < 0
      · have hd : decide (x < 0) = true := decide_eq_true c1
        have HF := Lib.hid (HBD.out fun h => by have := HST.out.1 h; omega)
        go_wp2_with fail
        go_quiet (fail)
        go_wp2_with fail
        go_ret
        exact ⟨ret_bool (by unfold rvalid; rw [HF.out]; rfl), below_drewN' HB.out _⟩
      · have hd : decide (x < 0) = false := decide_eq_false c1
        by_cases c2 : y < x
        · have hd2 : decide (y < x) = true := decide_eq_true c2
          have HF := Lib.hid (HBD.out fun h => by have := HST.out.1 h; omega)
          go_wp2_with fail
          go_quiet (fail)
          go_wp2_with fail
          go_ret
          exact ⟨ret_bool (by unfold rvalid; rw [HF.out]; rfl), below_drewN' HB.out _⟩
        · have hd2 : decide (y < x) = false := decide_eq_false c2
          by_cases c3 : 999 < y
          · have hd3 : decide (999 < y) = true := decide_eq_true c3
            have HF := Lib.hid (HBD.out fun h => by have := HST.out.1 h; omega)
            go_wp2_with fail
            go_quiet (fail)
            go_wp2_with fail
            go_ret
            exact ⟨ret_bool (by unfold rvalid; rw [HF.out]; rfl), below_drewN' HB.out _⟩
          · have hd3 : decide (999 < y) = false := decide_eq_false c3
            by_cases c4 : k = 0
            · have HN := Lib.hid (HST.out.2 ⟨by omega, by omega, by omega, by omega⟩)
              have hd4 : decide ((0 : Int) < (k : Int)) = false := decide_eq_false (by omega)
              have hd4n : decide (0 < k) = false := decide_eq_false (by omega)
              have H4 := Lib.hid c4
              clear c4
              go_wp2_with fail
              go_quiet (fail)
              go_wp2_with fail
              go_roundw
              case rel => exact ⟨k + 1, by omega, by go_num, HN.out, below_drewN' HB.out _⟩
              case measure => simp [intOf]; omega
            · have hkp : (0 : Int) < (k : Int) := by omega
              have hd4 : decide ((0 : Int) < (k : Int)) = true := decide_eq_true hkp
              have hd4n : decide (0 < k) = true := decide_eq_true (by omega)
              obtain ⟨_, e3⟩ := HCC.out (k - 1) (by omega)
              have e3 := (HB.out.cell (World.block_lt_of_cell? w _ e3)).trans e3
              have hls := HLS.out (by omega)
              generalize (l.getD (k - 1) (0, 0)).2 = z at e3 HST hls
              obtain ⟨z0, z1⟩ := hls
              have w1 : IntKind.i64.wrap ((k : Int) - 1) = (k : Int) - 1 := IntWalk.i64_in _ (by omega)
              have w2 : IntKind.i64.wrap (z + 2) = z + 2 := IntWalk.i64_in _ (by omega)
              have w3 : (0 : Int) ≤ (k : Int) - 1 := by omega
              have w3' : (1 : Int) ≤ (k : Int) := by omega
              have w4 : ((k : Int) - 1).toNat = k - 1 := by omega
              have w5 : (k : Int) - 1 < (l.length : Int) := by omega
              by_cases c5 : x < z + 2
              · have hd5 : decide (x < z + 2) = true := decide_eq_true c5
                have HF := Lib.hid (HBD.out fun h => by have := HST.out.1 h; have := this.2.2.2 (by omega); omega)
                go_wp2_with fail
                go_quiet (fail)
                go_wp2_with fail
                go_ret
                exact ⟨ret_bool (by unfold rvalid; rw [HF.out]; rfl), below_drewN' HB.out _⟩
              · have hd5 : decide (x < z + 2) = false := decide_eq_false c5
                have HN := Lib.hid (HST.out.2 ⟨by omega, by omega, by omega, fun _ => by omega⟩)
                go_wp2_with fail
                go_quiet (fail)
                go_wp2_with fail
                go_roundw
                case rel => exact ⟨k + 1, by omega, by go_num, HN.out, below_drewN' HB.out _⟩
                case measure => simp [intOf]; omega
    · have he : vfrom 0 l = true := by
        have := HV.out
        rwa [List.take_of_length_le (by omega)] at this
      have HE := Lib.hid he
      clear he
      go_wp2_with fail
      go_ret
      exact ⟨ret_bool (by unfold rvalid; rw [HE.out]; simp; omega), HB.out⟩

end Go.Proofs.Ytccolpaenmebeaa
