/- The law RangesCountRemove: the walk. -/
import Derived.Test.YtcjhbcibhcogjaaIHas
import Derived.Test.YtcjhbcibhcogjaaIRem
import Derived.Test.YtcjhbcibhcogjaaDrRem
import Derived.Test.YtcjhbcibhcogjaaICnt
import Derived.Test.YtcjhbcibhcogjaaCntMath
import Derived.Test.YtcjhbcibhcogjaaRgLawR
import Derived.Test.YtcjhbcibhcogjaaSameRg
namespace Go.Proofs.Ytcjhbcibhcogjaa
open Go.RowKit
set_option linter.unusedVariables false
set_option linter.unusedSimpArgs false

set_option maxRecDepth 100000 in
set_option maxHeartbeats 1000000 in
theorem cntrem_walk (a : Option Addr) (len cap : Nat) (zs : List Int) (w : World) (h : IsRow .u8 w a len cap zs) :
    Calls Try.prog 12 #[.slice a len cap] w fun e w' => e = .returned (.bool true) ∧ Below w.heap.size w w' := by
  have H := Lib.hid h
  clear h
  by_cases hl : 1048576 < len
  · go_enter Try.func12, Try.ntmps12
    go_wp2
    go_ret
    exact ⟨rfl, Below.refl _ _⟩
  go_enter Try.func12, Try.ntmps12
  go_wp2_with fail
  refine (drawRem_any a len cap zs w H.out).mono ?_
  rintro e w1 ⟨v, l, lo, hi, hl17, rfl, ⟨lo1, lo2⟩, ⟨hi1, hi2⟩, hb1, ho1, hn1⟩
  have B1 := Lib.hid hb1
  have I1 := Lib.hid (Rngs.of_own ho1)
  obtain ⟨ok, hok⟩ : ∃ ok, rremOk l lo hi = ok := ⟨_, rfl⟩
  obtain ⟨r, hr⟩ : ∃ r, rrem l lo hi = r := ⟨_, rfl⟩
  have hrl := rrem_len l lo hi
  rw [hr] at hrl
  have HOK := Lib.hid hok
  have HRR := Lib.hid hr
  have hrr : (r == r) = true := by simp
  clear hb1 ho1 hn1 hok hr
  go_wp2_with fail
  refine (irrem_any v l lo hi w1 I1.out (by omega)).mono ?_
  rintro e w2 ⟨v2, rfl, hb2, ho2, _⟩
  rw [HOK.out]
  rw [HRR.out] at ho2
  have B2 := Lib.hid (B1.out.trans (hb2.mono B1.out.size))
  have I1b := Lib.hid (I1.out.below hb2)
  have C2 := Lib.hid hb2
  have I2 := Lib.hid (Rngs.of_own ho2)
  clear hb2 ho2
  go_wp2_with fail
  refine (srrem_any v l lo hi w2 I1b.out (by omega)).mono ?_
  rintro e w3 ⟨v3, rfl, hb3, ho3, _⟩
  rw [HOK.out]
  rw [HRR.out] at ho3
  have B3 := Lib.hid (B2.out.trans (hb3.mono B2.out.size))
  have I2b := Lib.hid (I2.out.below hb3)
  have C3 := Lib.hid (C2.out.trans (hb3.mono C2.out.size))
  have I3 := Lib.hid (Rngs.of_own ho3)
  clear hb3 ho3
  go_wp2_with fail
  refine (samerg_any v2 v3 r r w3 I2b.out I3.out (by omega) (by omega)).mono ?_
  rintro e w4 ⟨rfl, hb4⟩
  rw [hrr]
  have B4 := Lib.hid (B3.out.trans (hb4.mono B3.out.size))
  have I2c := Lib.hid (I2b.out.below hb4)
  have B4i := Lib.hid (C3.out.trans (hb4.mono C3.out.size))
  have I3b := Lib.hid (I3.out.below hb4)
  clear hb4
  cases ok
  · go_wp2_with fail
    refine (samerg_any v2 v3 r r w4 I2c.out I3b.out (by omega) (by omega)).mono ?_
    rintro e w5 ⟨rfl, hb5⟩
    rw [hrr]
    have B5 := Lib.hid (B4.out.trans (hb5.mono B4.out.size))
    clear hb5
    go_wp2_with fail
    go_ret
    exact ⟨rfl, B5.out⟩
  · obtain ⟨hv, ⟨p0, p1, p2⟩, q1, q2, hrv⟩ := rremOk_parts HOK.out
    have hre : r = lrem l lo hi := by rw [← HRR.out]; exact rrem_eq HOK.out
    have hrv2 : rvalid r = true := by
      unfold rvalid
      rw [hre, lrem_valid l lo hi 0 hv p1, decide_eq_true q1]
      rfl
    have hcb := rcnt_bnd hv
    have hcb2 := rcnt_bnd (lrem_valid l lo hi 0 hv p1)
    have hcr := cnt_rem hv p0 p1 p2
    rw [← hre] at hcr hcb2
    have HC1 := Lib.hid (show rcount l = rcnt l by unfold rcount; rw [hrv]; rfl)
    have HC2 := Lib.hid (show rcount r = rcnt r by unfold rcount; rw [hrv2]; rfl)
    have HCR := Lib.hid hcr
    have HV1 := Lib.hid hrv
    have I1c := Lib.hid (I1.out.below B4i.out)
    clear hv q1 q2 hrv hrv2 hre hcr
    go_wp2_with fail
    go_loopw [10, 11] (fun nv iv wr => ∃ k : Nat, k ≤ (hi + 1 - lo).toNat ∧ iv = .int .i64 (lo + (k : Int)) ∧ nv = .int .i64 (cntP (rhas l) lo k) ∧ Below w4.heap.size w4 wr) (fun _ iv _ => (hi + 1 - intOf iv).toNat)
    case atStart => exact ⟨0, Nat.zero_le _, by simp, rfl, Below.refl _ _⟩
    case round =>
      obtain ⟨k, hk, rfl, rfl, hbel⟩ := hrel
      have HB := Lib.hid hbel
      have hcp := cntP_le (rhas l) lo k
      clear hbel
      by_cases hlt : lo + (k : Int) ≤ hi
      · have hd : decide (lo + (k : Int) ≤ hi) = true := decide_eq_true hlt
        have J1 := Lib.hid (I1c.out.below HB.out)
        have HST := Lib.hid (show cntP (rhas l) lo (k + 1) = cntP (rhas l) lo k + (if rhas l (lo + k) then 1 else 0) from rfl)
        generalize cntP (rhas l) lo k = cn at hcp HST
        cases hhl : rhas l (lo + (k : Int)) with
        | true =>
          have K1 := Lib.hid (show (rvalid l && rhas l (lo + (k : Int))) = true by rw [HV1.out, hhl]; rfl)
          rw [hhl] at HST
          clear hhl
          go_wp2_with fail
          refine (ihas_any v l (lo + (k : Int)) wr J1.out (by omega)).mono ?_
          rw [K1.out]
          rintro e w6 ⟨rfl, hb6⟩
          have HB6 := Lib.hid (HB.out.trans (hb6.mono HB.out.size))
          clear hb6
          go_wp2_with fail
          go_roundw
          case rel => exact ⟨k + 1, by omega, (by first | go_num | (congr 1; omega)), (by rw [HST.out]; rfl), HB6.out⟩
          case measure => simp [intOf]; omega
        | false =>
          have K1 := Lib.hid (show (rvalid l && rhas l (lo + (k : Int))) = false by rw [HV1.out, hhl]; rfl)
          rw [hhl] at HST
          clear hhl
          go_wp2_with fail
          refine (ihas_any v l (lo + (k : Int)) wr J1.out (by omega)).mono ?_
          rw [K1.out]
          rintro e w6 ⟨rfl, hb6⟩
          have HB6 := Lib.hid (HB.out.trans (hb6.mono HB.out.size))
          clear hb6
          go_wp2_with fail
          go_roundw
          case rel => exact ⟨k + 1, by omega, (by first | go_num | (congr 1; omega)), (by rw [HST.out]; simp), HB6.out⟩
          case measure => simp [intOf]; omega
      · have hd : decide (lo + (k : Int) ≤ hi) = false := decide_eq_false hlt
        have hke : k = (hi + 1 - lo).toNat := by omega
        have HE := Lib.hid (show rcnt l - rcnt r = cntP (rhas l) lo k by rw [hke]; exact HCR.out)
        have J1 := Lib.hid (I1c.out.below HB.out)
        have J2 := Lib.hid (I2c.out.below HB.out)
        have B6 := Lib.hid (B4.out.trans (HB.out.mono B4.out.size))
        generalize cntP (rhas l) lo k = cn at hcp HE
        clear hke
        go_wp2_with fail
        refine (icount_any v l wr J1.out (by omega)).mono ?_
        rintro e w6 ⟨rfl, hb6⟩
        rw [HC1.out]
        have B7 := Lib.hid (B6.out.trans (hb6.mono B6.out.size))
        have J2b := Lib.hid (J2.out.below hb6)
        clear hb6
        go_wp2_with fail
        refine (icount_any v2 r w6 J2b.out (by omega)).mono ?_
        rintro e w7 ⟨rfl, hb7⟩
        rw [HC2.out]
        have B8 := Lib.hid (B7.out.trans (hb7.mono B7.out.size))
        clear hb7
        go_wp2_with fail
        go_ret
        exact ⟨ret_bool (by rw [beq_iff_eq]; exact HE.out), B8.out⟩

end Go.Proofs.Ytcjhbcibhcogjaa
