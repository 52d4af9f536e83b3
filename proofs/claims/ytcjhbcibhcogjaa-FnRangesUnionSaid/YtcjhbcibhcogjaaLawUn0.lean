/- The law RangesUnion: the walk. -/
import Derived.Test.YtcjhbcibhcogjaaIUn
import Derived.Test.YtcjhbcibhcogjaaIHas
import Derived.Test.YtcjhbcibhcogjaaSUn
import Derived.Test.YtcjhbcibhcogjaaDrUn
import Derived.Test.YtcjhbcibhcogjaaRgLaw
import Derived.Test.YtcjhbcibhcogjaaSameRg
import Derived.Test.YtcjhbcibhcogjaaSamp
namespace Go.Proofs.Ytcjhbcibhcogjaa
open Go.RowKit
set_option linter.unusedVariables false
set_option linter.unusedSimpArgs false

set_option maxRecDepth 100000 in
set_option maxHeartbeats 1000000 in
theorem union_walk (a : Option Addr) (len cap : Nat) (zs : List Int) (w : World) (h : IsRow .u8 w a len cap zs) :
    Calls Try.prog 7 #[.slice a len cap] w fun e w' => e = .returned (.bool true) ∧ Below w.heap.size w w' := by
  have H := Lib.hid h
  clear h
  by_cases hl : 1048576 < len
  · go_enter Try.func7, Try.ntmps7
    go_wp2
    go_ret
    exact ⟨rfl, Below.refl _ _⟩
  go_enter Try.func7, Try.ntmps7
  go_wp2_with fail
  refine (drawUn_any a len cap zs w H.out).mono ?_
  rintro e w1 ⟨v, u, l, m, hl17, hm17, rfl, hb1, ho1, hu1⟩
  have B1 := Lib.hid hb1
  have I1 := Lib.hid (Rngs.of_own ho1)
  have J1 := Lib.hid (Rngs.of_own hu1)
  obtain ⟨ok, hok⟩ : ∃ ok, runionOk l m = ok := ⟨_, rfl⟩
  obtain ⟨r, hr⟩ : ∃ r, runion l m = r := ⟨_, rfl⟩
  have hrl := runion_len l m
  rw [hr] at hrl
  have HOK := Lib.hid hok
  have HRR := Lib.hid hr
  have hrr : (r == r) = true := by simp
  clear hb1 ho1 hu1 hok hr
  go_wp2_with fail
  refine (iunion_any v u l m w1 I1.out J1.out (by omega) (by omega)).mono ?_
  rintro e w2 ⟨v2, rfl, hb2, ho2, _⟩
  rw [HOK.out]
  rw [HRR.out] at ho2
  have B2 := Lib.hid (B1.out.trans (hb2.mono B1.out.size))
  have I1b := Lib.hid (I1.out.below hb2)
  have J1b := Lib.hid (J1.out.below hb2)
  have C2 := Lib.hid hb2
  have I2 := Lib.hid (Rngs.of_own ho2)
  clear hb2 ho2
  go_wp2_with fail
  refine (sunion_any v u l m w2 I1b.out J1b.out (by omega) (by omega)).mono ?_
  rintro e w3 ⟨v3, rfl, hb3, ho3, _⟩
  rw [HOK.out]
  rw [HRR.out] at ho3
  have B3 := Lib.hid (B2.out.trans (hb3.mono B2.out.size))
  have I2b := Lib.hid (I2.out.below hb3)
  have C3 := Lib.hid (C2.out.trans (hb3.mono C2.out.size))
  have I3 := Lib.hid (Rngs.of_own ho3)
  clear hb3 ho3
  go_wp2_with fail
  refine (samerg_any v2 v3 r r w3 I2b.out I3.out (by omega) (by omega)).mono ?_
  rintro e w4 ⟨rfl, hb4⟩
  rw [hrr]
  have B4 := Lib.hid (B3.out.trans (hb4.mono B3.out.size))
  have I2c := Lib.hid (I2b.out.below hb4)
  have B4i := Lib.hid (C3.out.trans (hb4.mono C3.out.size))
  have I3b := Lib.hid (I3.out.below hb4)
  clear hb4
  cases ok
  · go_wp2_with fail
    refine (samerg_any v2 v3 r r w4 I2c.out I3b.out (by omega) (by omega)).mono ?_
    rintro e w5 ⟨rfl, hb5⟩
    rw [hrr]
    have B5 := Lib.hid (B4.out.trans (hb5.mono B4.out.size))
    clear hb5
    go_wp2_with fail
    go_ret
    exact ⟨rfl, B5.out⟩
  · obtain ⟨hrv, hrm, q1, hre⟩ := runionOk_parts HOK.out
    rw [HRR.out] at hre
    have hv := rvalid_parts hrv
    have hm := rvalid_parts hrm
    have hpr := lunion_props m l hv.1 (fun r hr => vfrom_els hm.1 r hr)
    have hrv2 : rvalid r = true := by
      unfold rvalid
      rw [hre, hpr.1, decide_eq_true q1]
      rfl
    have HAS := Lib.hid (show ∀ n, rhas r n = true ↔ rhas l n = true ∨ rhas m n = true from fun n => by rw [hre]; exact hpr.2.2 n)
    have HV1 := Lib.hid hrv
    have HM1 := Lib.hid hrm
    have HV2 := Lib.hid hrv2
    have I1c := Lib.hid (I1.out.below B4i.out)
    have J1c := Lib.hid (J1.out.below B4i.out)
    clear hv hm hpr q1 hrv hrm hrv2 hre
    go_wp2_with fail
    refine (samp_any w4).mono ?_
    rintro e w5 ⟨v5, ns, hns, rfl, hb5, hi5, hn5⟩
    have B5 := Lib.hid (B4.out.trans (hb5.mono B4.out.size))
    have I1d := Lib.hid (I1c.out.below hb5)
    have J1d := Lib.hid (J1c.out.below hb5)
    have I2d := Lib.hid (I2c.out.below hb5)
    obtain ⟨na, nc, rfl, hnc⟩ := hi5
    have HNC := Lib.hid hnc
    clear hb5 hn5 hnc
    go_wp2_with fail
    go_loopw [54] (fun iv wr => ∃ k : Nat, k ≤ ns.length ∧ iv = .int .i64 k ∧ Below w5.heap.size w5 wr) (fun iv _ => ns.length - (intOf iv).toNat)
    case atStart => exact ⟨0, Nat.zero_le _, rfl, Below.refl _ _⟩
    case round =>
      obtain ⟨k, hk, rfl, hbel⟩ := hrel
      have HB := Lib.hid hbel
      clear hbel
      by_cases hlt : k < ns.length
      · obtain ⟨g, o, rfl, hc⟩ := HNC.out (by rintro rfl; simp at hlt)
        have e1 := hc k hlt
        have e1 := (HB.out.cell (World.block_lt_of_cell? w5 _ e1)).trans e1
        have b1 : (k : Int) < (ns.length : Int) := by omega
        have HCC := Lib.hid hc
        clear hc
        generalize ns.getD k 0 = n at e1
        have K1 := Lib.hid (I1d.out.below HB.out)
        have K1m := Lib.hid (J1d.out.below HB.out)
        have K2 := Lib.hid (I2d.out.below HB.out)
        have hn := HAS.out n
        cases hhl : rhas l n with
        | true =>
          have Q2 := Lib.hid (show (rvalid r && rhas r n) = true by rw [HV2.out, hn.2 (.inl hhl)]; rfl)
          have Q1 := Lib.hid (show (rvalid l && rhas l n) = true by rw [HV1.out, hhl]; rfl)
          clear hn hhl
          go_wp2_with fail
          refine (ihas_any v2 r n wr K2.out (by omega)).mono ?_
          rw [Q2.out]
          rintro e w6 ⟨rfl, hb6⟩
          have HB6 := Lib.hid (HB.out.trans (hb6.mono HB.out.size))
          have K1b := Lib.hid (K1.out.below hb6)
          clear hb6
          go_wp2_with fail
          refine (ihas_any v l n w6 K1b.out (by omega)).mono ?_
          rw [Q1.out]
          rintro e w7 ⟨rfl, hb7⟩
          have HB7 := Lib.hid (HB6.out.trans (hb7.mono HB6.out.size))
          clear hb7
          go_wp2_with fail
          go_roundw
          case rel => exact ⟨k + 1, by omega, by go_num, HB7.out⟩
          case measure => simp [intOf]; omega
        | false =>
          have Q1 := Lib.hid (show (rvalid l && rhas l n) = false by rw [HV1.out, hhl]; rfl)
          cases hhm : rhas m n with
          | true =>
            have Q2 := Lib.hid (show (rvalid r && rhas r n) = true by rw [HV2.out, hn.2 (.inr hhm)]; rfl)
            have Q3 := Lib.hid (show (rvalid m && rhas m n) = true by rw [HM1.out, hhm]; rfl)
            clear hn hhl hhm
            go_wp2_with fail
            refine (ihas_any v2 r n wr K2.out (by omega)).mono ?_
            rw [Q2.out]
            rintro e w6 ⟨rfl, hb6⟩
            have HB6 := Lib.hid (HB.out.trans (hb6.mono HB.out.size))
            have K1b := Lib.hid (K1.out.below hb6)
            have K1mb := Lib.hid (K1m.out.below hb6)
            clear hb6
            go_wp2_with fail
            refine (ihas_any v l n w6 K1b.out (by omega)).mono ?_
            rw [Q1.out]
            rintro e w7 ⟨rfl, hb7⟩
            have HB7 := Lib.hid (HB6.out.trans (hb7.mono HB6.out.size))
            have K1mc := Lib.hid (K1mb.out.below hb7)
            clear hb7
            go_wp2_with fail
            refine (ihas_any u m n w7 K1mc.out (by omega)).mono ?_
            rw [Q3.out]
            rintro e w8 ⟨rfl, hb8⟩
            have HB8 := Lib.hid (HB7.out.trans (hb8.mono HB7.out.size))
            clear hb8
            go_wp2_with fail
            go_roundw
            case rel => exact ⟨k + 1, by omega, by go_num, HB8.out⟩
            case measure => simp [intOf]; omega
          | false =>
            have Q2 := Lib.hid (show (rvalid r && rhas r n) = false by
              rw [HV2.out, Bool.true_and, Bool.eq_false_iff]
              intro hq
              rcases hn.1 hq with z | z
              · rw [hhl] at z; cases z
              · rw [hhm] at z; cases z)
            have Q3 := Lib.hid (show (rvalid m && rhas m n) = false by rw [HM1.out, hhm]; rfl)
            clear hn hhl hhm
            go_wp2_with fail
            refine (ihas_any v2 r n wr K2.out (by omega)).mono ?_
            rw [Q2.out]
            rintro e w6 ⟨rfl, hb6⟩
            have HB6 := Lib.hid (HB.out.trans (hb6.mono HB.out.size))
            have K1b := Lib.hid (K1.out.below hb6)
            have K1mb := Lib.hid (K1m.out.below hb6)
            clear hb6
            go_wp2_with fail
            refine (ihas_any v l n w6 K1b.out (by omega)).mono ?_
            rw [Q1.out]
            rintro e w7 ⟨rfl, hb7⟩
            have HB7 := Lib.hid (HB6.out.trans (hb7.mono HB6.out.size))
            have K1mc := Lib.hid (K1mb.out.below hb7)
            clear hb7
            go_wp2_with fail
            refine (ihas_any u m n w7 K1mc.out (by omega)).mono ?_
            rw [Q3.out]
            rintro e w8 ⟨rfl, hb8⟩
            have HB8 := Lib.hid (HB7.out.trans (hb8.mono HB7.out.size))
            clear hb8
            go_wp2_with fail
            go_roundw
            case rel => exact ⟨k + 1, by omega, by go_num, HB8.out⟩
            case measure => simp [intOf]; omega
      · have K2 := Lib.hid (I2d.out.below HB.out)
        have B6 := Lib.hid (B5.out.trans (HB.out.mono B5.out.size))
        go_wp2_with fail
        refine (ivalid_any v2 r wr K2.out (by omega)).mono ?_
        rw [HV2.out]
        rintro e w6 ⟨rfl, hb6⟩
        have B7 := Lib.hid (B6.out.trans (hb6.mono B6.out.size))
        clear hb6
        go_wp2_with fail
        go_ret
        exact ⟨rfl, B7.out⟩

end Go.Proofs.Ytcjhbcibhcogjaa
