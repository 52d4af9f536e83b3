/- The law RangesRemove: the walk. -/
import Derived.Test.YtcjhbcibhcogjaaIHas
import Derived.Test.YtcjhbcibhcogjaaIRem
import Derived.Test.YtcjhbcibhcogjaaDrRem
import Derived.Test.YtcjhbcibhcogjaaRgLawR
import Derived.Test.YtcjhbcibhcogjaaSameRg
import Derived.Test.YtcjhbcibhcogjaaSamp
namespace Go.Proofs.Ytcjhbcibhcogjaa
open Go.RowKit
set_option linter.unusedVariables false
set_option linter.unusedSimpArgs false

set_option maxRecDepth 100000 in
set_option maxHeartbeats 1000000 in
theorem remset_walk (a : Option Addr) (len cap : Nat) (zs : List Int) (w : World) (h : IsRow .u8 w a len cap zs) :
    Calls Try.prog 5 #[.slice a len cap] w fun e w' => e = .returned (.bool true) ∧ Below w.heap.size w w' := by
  have H := Lib.hid h
  clear h
  by_cases hl : 1048576 < len
  · go_enter Try.func5, Try.ntmps5
    go_wp2
    go_ret
    exact ⟨rfl, Below.refl _ _⟩
  go_enter Try.func5, Try.ntmps5
  go_wp2_with fail
  refine (drawRem_any a len cap zs w H.out).mono ?_
  rintro e w1 ⟨v, l, lo, hi, hl17, rfl, ⟨lo1, lo2⟩, ⟨hi1, hi2⟩, hb1, ho1, hn1⟩
  have B1 := Lib.hid hb1
  have I1 := Lib.hid (Rngs.of_own ho1)
  obtain ⟨ok, hok⟩ : ∃ ok, rremOk l lo hi = ok := ⟨_, rfl⟩
  obtain ⟨r, hr⟩ : ∃ r, rrem l lo hi = r := ⟨_, rfl⟩
  have hrl := rrem_len l lo hi
  rw [hr] at hrl
  have HOK := Lib.hid hok
  have HRR := Lib.hid hr
  have hrr : (r == r) = true := by simp
  clear hb1 ho1 hn1 hok hr
  go_wp2_with fail
  refine (irrem_any v l lo hi w1 I1.out (by omega)).mono ?_
  rintro e w2 ⟨v2, rfl, hb2, ho2, _⟩
  rw [HOK.out]
  rw [HRR.out] at ho2
  have B2 := Lib.hid (B1.out.trans (hb2.mono B1.out.size))
  have I1b := Lib.hid (I1.out.below hb2)
  have C2 := Lib.hid hb2
  have I2 := Lib.hid (Rngs.of_own ho2)
  clear hb2 ho2
  go_wp2_with fail
  refine (srrem_any v l lo hi w2 I1b.out (by omega)).mono ?_
  rintro e w3 ⟨v3, rfl, hb3, ho3, _⟩
  rw [HOK.out]
  rw [HRR.out] at ho3
  have B3 := Lib.hid (B2.out.trans (hb3.mono B2.out.size))
  have I2b := Lib.hid (I2.out.below hb3)
  have C3 := Lib.hid (C2.out.trans (hb3.mono C2.out.size))
  have I3 := Lib.hid (Rngs.of_own ho3)
  clear hb3 ho3
  go_wp2_with fail
  refine (samerg_any v2 v3 r r w3 I2b.out I3.out (by omega) (by omega)).mono ?_
  rintro e w4 ⟨rfl, hb4⟩
  rw [hrr]
  have B4 := Lib.hid (B3.out.trans (hb4.mono B3.out.size))
  have I2c := Lib.hid (I2b.out.below hb4)
  have B4i := Lib.hid (C3.out.trans (hb4.mono C3.out.size))
  have I3b := Lib.hid (I3.out.below hb4)
  clear hb4
  cases ok
  · go_wp2_with fail
    refine (samerg_any v2 v3 r r w4 I2c.out I3b.out (by omega) (by omega)).mono ?_
    rintro e w5 ⟨rfl, hb5⟩
    rw [hrr]
    have B5 := Lib.hid (B4.out.trans (hb5.mono B4.out.size))
    clear hb5
    go_wp2_with fail
    go_ret
    exact ⟨rfl, B5.out⟩
  · obtain ⟨hv, ⟨p0, p1, p2⟩, q1, q2, hrv⟩ := rremOk_parts HOK.out
    have hre : r = lrem l lo hi := by rw [← HRR.out]; exact rrem_eq HOK.out
    have hrv2 : rvalid r = true := by
      unfold rvalid
      rw [hre, lrem_valid l lo hi 0 hv p1, decide_eq_true q1]
      rfl
    have HAS := Lib.hid (show ∀ n, rhas r n = true ↔ rhas l n = true ∧ ¬ (lo ≤ n ∧ n ≤ hi) from fun n => by rw [hre]; exact lrem_has l lo hi 0 n hv p1)
    have HV1 := Lib.hid hrv
    have HV2 := Lib.hid hrv2
    have I1c := Lib.hid (I1.out.below B4i.out)
    clear hv q1 q2 hrv hrv2 hre
    go_wp2_with fail
    refine (samp_any w4).mono ?_
    rintro e w5 ⟨v5, ns, hns, rfl, hb5, hi5, hn5⟩
    have B5 := Lib.hid (B4.out.trans (hb5.mono B4.out.size))
    have I1d := Lib.hid (I1c.out.below hb5)
    have I2d := Lib.hid (I2c.out.below hb5)
    obtain ⟨na, nc, rfl, hnc⟩ := hi5
    have HNC := Lib.hid hnc
    clear hb5 hn5 hnc
    go_wp2_with fail
    go_loopw [58] (fun iv wr => ∃ k : Nat, k ≤ ns.length ∧ iv = .int .i64 k ∧ Below w5.heap.size w5 wr) (fun iv _ => ns.length - (intOf iv).toNat)
    case atStart => exact ⟨0, Nat.zero_le _, rfl, Below.refl _ _⟩
    case round =>
      obtain ⟨k, hk, rfl, hbel⟩ := hrel
      have HB := Lib.hid hbel
      clear hbel
      by_cases hlt : k < ns.length
      · obtain ⟨g, o, rfl, hc⟩ := HNC.out (by rintro rfl; simp at hlt)
        have e1 := hc k hlt
        have e1 := (HB.out.cell (World.block_lt_of_cell? w5 _ e1)).trans e1
        have b1 : (k : Int) < (ns.length : Int) := by omega
        have HCC := Lib.hid hc
        clear hc
        generalize ns.getD k 0 = n at e1
        have J1 := Lib.hid (I1d.out.below HB.out)
        have J2 := Lib.hid (I2d.out.below HB.out)
        have hn := HAS.out n
        cases hhl : rhas l n with
        | false =>
          have K2 := Lib.hid (show (rvalid r && rhas r n) = false by
            rw [HV2.out, Bool.true_and, Bool.eq_false_iff]
            intro hq
            have := (hn.1 hq).1
            rw [hhl] at this; cases this)
          have K1 := Lib.hid (show (rvalid l && rhas l n) = false by rw [HV1.out, hhl]; rfl)
          clear hn hhl
          go_wp2_with fail
          refine (ihas_any v2 r n wr J2.out (by omega)).mono ?_
          rw [K2.out]
          rintro e w6 ⟨rfl, hb6⟩
          have HB6 := Lib.hid (HB.out.trans (hb6.mono HB.out.size))
          have J1b := Lib.hid (J1.out.below hb6)
          clear hb6
          go_wp2_with fail
          refine (ihas_any v l n w6 J1b.out (by omega)).mono ?_
          rw [K1.out]
          rintro e w7 ⟨rfl, hb7⟩
          have HB7 := Lib.hid (HB6.out.trans (hb7.mono HB6.out.size))
          clear hb7
          go_wp2_with fail
          go_roundw
          case rel => exact ⟨k + 1, by omega, by go_num, HB7.out⟩
          case measure => simp [intOf]; omega
        | true =>
          have K1 := Lib.hid (show (rvalid l && rhas l n) = true by rw [HV1.out, hhl]; rfl)
          by_cases hlo : n < lo
          · have hd0 : decide (n < lo) = true := decide_eq_true hlo
            have K2 := Lib.hid (show (rvalid r && rhas r n) = true by rw [HV2.out, hn.2 ⟨hhl, by omega⟩]; rfl)
            clear hn hhl
            go_wp2_with fail
            refine (ihas_any v2 r n wr J2.out (by omega)).mono ?_
            rw [K2.out]
            rintro e w6 ⟨rfl, hb6⟩
            have HB6 := Lib.hid (HB.out.trans (hb6.mono HB.out.size))
            have J1b := Lib.hid (J1.out.below hb6)
            clear hb6
            go_wp2_with fail
            refine (ihas_any v l n w6 J1b.out (by omega)).mono ?_
            rw [K1.out]
            rintro e w7 ⟨rfl, hb7⟩
            have HB7 := Lib.hid (HB6.out.trans (hb7.mono HB6.out.size))
            clear hb7
            go_wp2_with fail
            go_roundw
            case rel => exact ⟨k + 1, by omega, by go_num, HB7.out⟩
            case measure => simp [intOf]; omega
          · have hd0 : decide (n < lo) = false := decide_eq_false hlo
            by_cases hhi : hi < n
            · have hd1 : decide (hi < n) = true := decide_eq_true hhi
              have K2 := Lib.hid (show (rvalid r && rhas r n) = true by rw [HV2.out, hn.2 ⟨hhl, by omega⟩]; rfl)
              clear hn hhl
              go_wp2_with fail
              refine (ihas_any v2 r n wr J2.out (by omega)).mono ?_
              rw [K2.out]
              rintro e w6 ⟨rfl, hb6⟩
              have HB6 := Lib.hid (HB.out.trans (hb6.mono HB.out.size))
              have J1b := Lib.hid (J1.out.below hb6)
              clear hb6
              go_wp2_with fail
              refine (ihas_any v l n w6 J1b.out (by omega)).mono ?_
              rw [K1.out]
              rintro e w7 ⟨rfl, hb7⟩
              have HB7 := Lib.hid (HB6.out.trans (hb7.mono HB6.out.size))
              clear hb7
              go_wp2_with fail
              go_roundw
              case rel => exact ⟨k + 1, by omega, by go_num, HB7.out⟩
              case measure => simp [intOf]; omega
            · have hd1 : decide (hi < n) = false := decide_eq_false hhi
              have K2 := Lib.hid (show (rvalid r && rhas r n) = false by
                rw [HV2.out, Bool.true_and, Bool.eq_false_iff]
                intro hq
                exact (hn.1 hq).2 ⟨by omega, by omega⟩)
              clear hn hhl
              go_wp2_with fail
              refine (ihas_any v2 r n wr J2.out (by omega)).mono ?_
              rw [K2.out]
              rintro e w6 ⟨rfl, hb6⟩
              have HB6 := Lib.hid (HB.out.trans (hb6.mono HB.out.size))
              have J1b := Lib.hid (J1.out.below hb6)
              clear hb6
              go_wp2_with fail
              refine (ihas_any v l n w6 J1b.out (by omega)).mono ?_
              rw [K1.out]
              rintro e w7 ⟨rfl, hb7⟩
              have HB7 := Lib.hid (HB6.out.trans (hb7.mono HB6.out.size))
              clear hb7
              go_wp2_with fail
              go_roundw
              case rel => exact ⟨k + 1, by omega, by go_num, HB7.out⟩
              case measure => simp [intOf]; omega
      · have J2 := Lib.hid (I2d.out.below HB.out)
        have B6 := Lib.hid (B5.out.trans (HB.out.mono B5.out.size))
        go_wp2_with fail
        refine (ivalid_any v2 r wr J2.out (by omega)).mono ?_
        rw [HV2.out]
        rintro e w6 ⟨rfl, hb6⟩
        have B7 := Lib.hid (B6.out.trans (hb6.mono B6.out.size))
        clear hb6
        go_wp2_with fail
        go_ret
        exact ⟨rfl, B7.out⟩

end Go.Proofs.Ytcjhbcibhcogjaa
