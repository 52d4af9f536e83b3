/- The contract of eqIntS. -/
import Derived.Test.YtccolpaenmebeaaInts
namespace Go.Proofs.Ytccolpaenmebeaa
open Go.RowKit
set_option linter.unusedVariables false
set_option linter.unusedSimpArgs false

set_option maxHeartbeats 1000000 in
theorem eqint_any (va vb : Value) (xs ys : List Int) (w : World) (ha : Ints w va xs) (hb : Ints w vb ys) (hx : xs.length ≤ 9223372036854775807) (hy : ys.length ≤ 9223372036854775807) :
    Calls Try.prog 24 #[va, vb] w fun e w' => e = .returned (.bool (xs == ys)) ∧ Below w.heap.size w w' := by
  obtain ⟨a, c, rfl, ha⟩ := ha
  obtain ⟨a2, c2, rfl, hb⟩ := hb
  by_cases hl : xs.length = ys.length
  · by_cases h0 : xs = []
    · subst h0
      have hy0 : ys = [] := by cases ys with | nil => rfl | cons y l => simp at hl
      subst hy0
      clear ha hb hl
      go_enter Try.func24, Try.ntmps24
      go_wp2_with fail
      go_rounds 1
      go_ret
      exact ⟨rfl, Below.refl _ _⟩
    · have h0' : ys ≠ [] := by rintro rfl; simp at hl; exact h0 (by simpa using hl)
      obtain ⟨g, o, rfl, hc⟩ := ha h0
      obtain ⟨g2, o2, rfl, hc2⟩ := hb h0'
      have HL := Lib.hid hl
      have hnn : ((xs.length : Int) != (ys.length : Int)) = false := by rw [bne_eq_false_iff_eq]; omega
      clear ha hb h0 h0'
      have HC := Lib.hid hc
      have HC2 := Lib.hid hc2
      have hlA : xs.length ≤ ys.length := by omega
      have hlB : ys.length ≤ xs.length := by omega
      clear hl hc hc2
      go_enter Try.func24, Try.ntmps24
      go_wp2_with fail
      go_loopw [5] (fun i wr => ∃ k : Nat, k ≤ xs.length ∧ i = .int .i64 k ∧ Hid (xs.take k = ys.take k) ∧ Below w.heap.size w wr) (fun i _ => xs.length - (intOf i).toNat)
      case atStart => exact ⟨0, Nat.zero_le _, rfl, rfl, Below.refl _ _⟩
      case round =>
        obtain ⟨k, hk, rfl, HT, hbel⟩ := hrel
        have HB := Lib.hid hbel
        clear hbel
        by_cases hlt : k < xs.length
        · have e1 := (HC.out k hlt)
          have e1 := (HB.out.cell (World.block_lt_of_cell? w _ e1)).trans e1
          have e2 := (HC2.out k (by omega))
          have e2 := (HB.out.cell (World.block_lt_of_cell? w _ e2)).trans e2
          have b1 : (k : Int) < (xs.length : Int) := by omega
          have b2 : (k : Int) < (ys.length : Int) := by omega
          have HS := Lib.hid (take_step xs ys k hlt HL.out HT.out)
          generalize xs.getD k 0 = z1 at e1 HS
          generalize ys.getD k 0 = z2 at e2 HS
          by_cases hz : z1 = z2
          · have hzb : (z1 != z2) = false := by rw [bne_eq_false_iff_eq]; exact hz
            have HZ := Lib.hid hz
            clear hz
            go_wp2_with fail
            go_quiet (fail)
            go_wp2_with fail
            go_roundw
            case rel => exact ⟨k + 1, by omega, by go_num, HS.out.1 HZ.out, below_drewN' HB.out _⟩
            case measure => simp [intOf]; omega
          · have hzb : (z1 != z2) = true := by rw [bne_iff_ne]; exact hz
            have HZ := Lib.hid hz
            clear hz
            go_wp2_with fail
            go_quiet (fail)
            go_wp2_with fail
            go_ret
            exact ⟨ret_bool (by rw [HS.out.2 HZ.out]), below_drewN' HB.out _⟩
        · have hend : xs == ys := by
            have := HT.out
            rw [List.take_of_length_le (by omega), List.take_of_length_le (by omega)] at this
            simpa using this
          have HE := Lib.hid hend
          clear hend
          go_wp2
          go_ret
          exact ⟨ret_bool HE.out.symm, HB.out⟩
  · have hnn : ((xs.length : Int) != (ys.length : Int)) = true := by rw [bne_iff_ne]; omega
    have hne : (xs == ys) = false := by
      rw [beq_eq_false_iff_ne]; rintro rfl; exact hl rfl
    have HE := Lib.hid hne
    clear ha hb hl hne
    go_enter Try.func24, Try.ntmps24
    go_wp2
    go_ret
    exact ⟨ret_bool HE.out.symm, Below.refl _ _⟩

end Go.Proofs.Ytccolpaenmebeaa
