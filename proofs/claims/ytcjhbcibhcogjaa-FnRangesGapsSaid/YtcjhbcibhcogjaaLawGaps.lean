/- The law RangesGaps: the walk. -/
import Derived.Test.YtcjhbcibhcogjaaIGaps
import Derived.Test.YtcjhbcibhcogjaaSameRg
import Derived.Test.YtcjhbcibhcogjaaDrGaps
import Derived.Test.YtcjhbcibhcogjaaIHas
import Derived.Test.YtcjhbcibhcogjaaUnLaw
import Derived.Test.YtcjhbcibhcogjaaSamp
namespace Go.Proofs.Ytcjhbcibhcogjaa
open Go.RowKit
set_option linter.unusedVariables false
set_option linter.unusedSimpArgs false

theorem rgaps_len (l : List (Int × Int)) : (rgaps l).length ≤ l.length := by
  unfold rgaps
  split
  · rw [lgaps_len]; omega
  · simp

set_option maxRecDepth 100000 in
set_option maxHeartbeats 1000000 in
theorem gaps_walk (a : Option Addr) (len cap : Nat) (zs : List Int) (w : World) (h : IsRow .u8 w a len cap zs) :
    Calls Try.prog 9 #[.slice a len cap] w fun e w' => e = .returned (.bool true) ∧ Below w.heap.size w w' := by
  have H := Lib.hid h
  clear h
  by_cases hl : 1048576 < len
  · go_enter Try.func9, Try.ntmps9
    go_wp2
    go_ret
    exact ⟨rfl, Below.refl _ _⟩
  go_enter Try.func9, Try.ntmps9
  go_wp2_with fail
  refine (drawGaps_any a len cap zs w H.out).mono ?_
  rintro e w1 ⟨v, l, hl17, rfl, hb1, ho1, hn1⟩
  have B1 := Lib.hid hb1
  obtain ⟨la, lc, rfl⟩ := ownsRow_shape ho1
  have I1 := Lib.hid (Rngs.of_own ho1)
  have hrl := rgaps_len l
  obtain ⟨r, hr⟩ : ∃ r, rgaps l = r := ⟨_, rfl⟩
  rw [hr] at hrl
  have HRR := Lib.hid hr
  have hrr : (r == r) = true := by simp
  clear hb1 ho1 hn1 hr
  go_wp2_with fail
  refine (igaps_any _ l w1 I1.out (by omega)).mono ?_
  rintro e w2 ⟨v2, rfl, hb2, ho2, _⟩
  rw [HRR.out] at ho2
  obtain ⟨ra, rc, rfl⟩ := ownsRow_shape ho2
  have C2 := Lib.hid hb2
  have I2 := Lib.hid (Rngs.of_own ho2)
  clear hb2 ho2
  go_wp2_with fail
  refine (sgaps_any _ l w2 (I1.out.below C2.out) (by omega)).mono ?_
  rintro e w3 ⟨v3, rfl, hb3, ho3, _⟩
  rw [HRR.out] at ho3
  have C3 := Lib.hid (C2.out.trans (hb3.mono C2.out.size))
  have I2b := Lib.hid (I2.out.below hb3)
  have I3 := Lib.hid (Rngs.of_own ho3)
  clear hb3 ho3
  go_wp2_with fail
  refine (samerg_any _ v3 r r w3 I2b.out I3.out (by omega) (by omega)).mono ?_
  rintro e w4 ⟨rfl, hb4⟩
  rw [hrr]
  have C4 := Lib.hid (C3.out.trans (hb4.mono C3.out.size))
  have I2c := Lib.hid (I2b.out.below hb4)
  have I3b := Lib.hid (I3.out.below hb4)
  clear hb4
  go_wp2_with fail
  refine (svalid_any _ l w4 (I1.out.below C4.out) (by omega)).mono ?_
  rintro e w5 ⟨rfl, hb5⟩
  have C5 := Lib.hid (C4.out.trans (hb5.mono C4.out.size))
  have B5 := Lib.hid (B1.out.trans (C5.out.mono B1.out.size))
  have I2d := Lib.hid (I2c.out.below hb5)
  have I3c := Lib.hid (I3b.out.below hb5)
  clear hb5
  cases hv : rvalid l with
  | false =>
    clear hv
    go_wp2_with fail
    refine (samerg_any _ v3 r r w5 I2d.out I3c.out (by omega) (by omega)).mono ?_
    rintro e w6 ⟨rfl, hb6⟩
    rw [hrr]
    have B6 := Lib.hid (B5.out.trans (hb6.mono B5.out.size))
    clear hb6
    go_wp2_with fail
    go_ret
    exact ⟨rfl, B6.out⟩
  | true =>
    by_cases h0 : l = []
    · have hlen0 : ((l.length : Int) == 0) = true := by rw [h0]; rfl
      clear hv h0
      go_wp2_with fail
      refine (samerg_any _ v3 r r w5 I2d.out I3c.out (by omega) (by omega)).mono ?_
      rintro e w6 ⟨rfl, hb6⟩
      rw [hrr]
      have B6 := Lib.hid (B5.out.trans (hb6.mono B5.out.size))
      clear hb6
      go_wp2_with fail
      go_ret
      exact ⟨rfl, B6.out⟩
    · have hpos : 0 < l.length := List.length_pos_iff.2 h0
      have hlen0 : ((l.length : Int) == 0) = false := by rw [beq_eq_false_iff_ne]; omega
      obtain ⟨a', c', hac, hcc⟩ := id I1.out
      obtain ⟨g, o, hg, hc⟩ := hcc h0
      rw [hg] at hac
      injection hac with hac1 _ hac2
      subst hac1 hac2
      have hfc := (hc 0 hpos).1
      have hzc := (hc (l.length - 1) (by omega)).2
      rw [show o + 0 * 2 = o by omega] at hfc
      have HFC := Lib.hid hfc
      have HZC := Lib.hid hzc
      have hva := rvalid_parts hv
      have hre : r = lgaps l := by rw [← HRR.out]; exact rgaps_yes hv
      have hvr : rvalid r = true := by rw [hre]; exact (union_gaps hv h0).1
      have hrlen : r.length = l.length - 1 := by rw [hre, lgaps_len]
      have HAS := Lib.hid (show ∀ n, rhas r n = true ↔ rhas l n = false ∧ (l.getD 0 (0, 0)).1 < n ∧ n < (l.getD (l.length - 1) (0, 0)).2 from fun n => by rw [hre]; exact lgaps_has n hva.1 h0)
      have HV1 := Lib.hid hv
      have HV2 := Lib.hid hvr
      generalize (l.getD 0 (0, 0)).1 = x at HFC HAS hfc
      generalize (l.getD (l.length - 1) (0, 0)).2 = y at HZC HAS hzc
      have HRL := Lib.hid hrlen
      clear hc hcc hfc hzc hva hre hvr hv hrlen
      go_wp2_with fail
      refine (samp_any w5).mono ?_
      rintro e w6 ⟨v6, ns, hns, rfl, hb6, hi6, hn6⟩
      have C6 := Lib.hid (C5.out.trans (hb6.mono C5.out.size))
      have B6 := Lib.hid (B5.out.trans (hb6.mono B5.out.size))
      have I2e := Lib.hid (I2d.out.below hb6)
      obtain ⟨na, nc, rfl, hnc⟩ := hi6
      have HNC := Lib.hid hnc
      clear hb6 hn6 hnc
      go_wp2_with fail
      go_loopw [36] (fun iv wr => ∃ k : Nat, k ≤ ns.length ∧ iv = .int .i64 k ∧ Below w6.heap.size w6 wr) (fun iv _ => ns.length - (intOf iv).toNat)
      case atStart => exact ⟨0, Nat.zero_le _, rfl, Below.refl _ _⟩
      case round =>
        obtain ⟨k, hk, rfl, hbel⟩ := hrel
        have HB := Lib.hid hbel
        clear hbel
        by_cases hlt : k < ns.length
        · obtain ⟨g9, o9, rfl, hc9⟩ := HNC.out (by rintro rfl; simp at hlt)
          have e1 := hc9 k hlt
          have e1 := (HB.out.cell (World.block_lt_of_cell? w6 _ e1)).trans e1
          have b1 : (k : Int) < (ns.length : Int) := by omega
          have HCC9 := Lib.hid hc9
          clear hc9
          generalize ns.getD k 0 = n at e1
          have CR := Lib.hid (C6.out.trans (HB.out.mono C6.out.size))
          have K1 := Lib.hid (I1.out.below CR.out)
          have K2 := Lib.hid (I2e.out.below HB.out)
          have hn := HAS.out n
          cases hhl : rhas l n with
          | true =>
            have Q1 := Lib.hid (show (rvalid l && rhas l n) = true by rw [HV1.out, hhl]; rfl)
            have Q2 := Lib.hid (show (rvalid r && rhas r n) = false by
              rw [HV2.out, Bool.true_and, Bool.eq_false_iff]
              intro hq
              have := (hn.1 hq).1
              rw [hhl] at this; cases this)
            clear hn hhl
            go_wp2_with fail
            refine (ihas_any _ r n wr K2.out (by omega)).mono ?_
            rw [Q2.out]
            rintro e w7 ⟨rfl, hb7⟩
            have HB7 := Lib.hid (HB.out.trans (hb7.mono HB.out.size))
            have K1b := Lib.hid (K1.out.below hb7)
            clear hb7
            go_wp2_with fail
            refine (ihas_any _ l n w7 K1b.out (by omega)).mono ?_
            rw [Q1.out]
            rintro e w8 ⟨rfl, hb8⟩
            have HB8 := Lib.hid (HB7.out.trans (hb8.mono HB7.out.size))
            clear hb8
            go_wp2_with fail
            go_roundw
            case rel => exact ⟨k + 1, by omega, by go_num, HB8.out⟩
            case measure => simp [intOf]; omega
          | false =>
            have Q1 := Lib.hid (show (rvalid l && rhas l n) = false by rw [HV1.out, hhl]; rfl)
            by_cases c1 : x < n
            · have d1 : decide (x < n) = true := decide_eq_true c1
              by_cases c2 : n < y
              · have d2 : decide (n < y) = true := decide_eq_true c2
                have Q2 := Lib.hid (show (rvalid r && rhas r n) = true by rw [HV2.out, hn.2 ⟨hhl, c1, c2⟩]; rfl)
                clear hn hhl
                go_wp2_with fail
                refine (ihas_any _ r n wr K2.out (by omega)).mono ?_
                rw [Q2.out]
                rintro e w7 ⟨rfl, hb7⟩
                have HB7 := Lib.hid (HB.out.trans (hb7.mono HB.out.size))
                have K1b := Lib.hid (K1.out.below hb7)
                clear hb7
                go_wp2_with fail
                refine (ihas_any _ l n w7 K1b.out (by omega)).mono ?_
                rw [Q1.out]
                rintro e w8 ⟨rfl, hb8⟩
                have HB8 := Lib.hid (HB7.out.trans (hb8.mono HB7.out.size))
                have CR8 := C6.out.trans (HB8.out.mono C6.out.size)
                have f1 := (CR8.cell (World.block_lt_of_cell? w1 _ HFC.out)).trans HFC.out
                have f2 := (CR8.cell (World.block_lt_of_cell? w1 _ HZC.out)).trans HZC.out
                have t1 : ((l.length : Int) - 1).toNat = l.length - 1 := by omega
                have t2 : (0 : Int) ≤ (l.length : Int) - 1 := by omega
                have t3 : (l.length : Int) - 1 < (l.length : Int) := by omega
                have t4 : (0 : Int) < (l.length : Int) := by omega
                clear hb8 CR8
                go_wp2_with fail
                go_roundw
                case rel => exact ⟨k + 1, by omega, by go_num, HB8.out⟩
                case measure => simp [intOf]; omega
              · have d2 : decide (n < y) = false := decide_eq_false c2
                have Q2 := Lib.hid (show (rvalid r && rhas r n) = false by
                  rw [HV2.out, Bool.true_and, Bool.eq_false_iff]
                  exact fun hq => c2 (hn.1 hq).2.2)
                clear hn hhl
                go_wp2_with fail
                refine (ihas_any _ r n wr K2.out (by omega)).mono ?_
                rw [Q2.out]
                rintro e w7 ⟨rfl, hb7⟩
                have HB7 := Lib.hid (HB.out.trans (hb7.mono HB.out.size))
                have K1b := Lib.hid (K1.out.below hb7)
                clear hb7
                go_wp2_with fail
                refine (ihas_any _ l n w7 K1b.out (by omega)).mono ?_
                rw [Q1.out]
                rintro e w8 ⟨rfl, hb8⟩
                have HB8 := Lib.hid (HB7.out.trans (hb8.mono HB7.out.size))
                have CR8 := C6.out.trans (HB8.out.mono C6.out.size)
                have f1 := (CR8.cell (World.block_lt_of_cell? w1 _ HFC.out)).trans HFC.out
                have f2 := (CR8.cell (World.block_lt_of_cell? w1 _ HZC.out)).trans HZC.out
                have t1 : ((l.length : Int) - 1).toNat = l.length - 1 := by omega
                have t2 : (0 : Int) ≤ (l.length : Int) - 1 := by omega
                have t3 : (l.length : Int) - 1 < (l.length : Int) := by omega
                have t4 : (0 : Int) < (l.length : Int) := by omega
                clear hb8 CR8
                go_wp2_with fail
                go_roundw
                case rel => exact ⟨k + 1, by omega, by go_num, HB8.out⟩
                case measure => simp [intOf]; omega
            · have d1 : decide (x < n) = false := decide_eq_false c1
              have Q2 := Lib.hid (show (rvalid r && rhas r n) = false by
                rw [HV2.out, Bool.true_and, Bool.eq_false_iff]
                exact fun hq => c1 (hn.1 hq).2.1)
              clear hn hhl
              go_wp2_with fail
              refine (ihas_any _ r n wr K2.out (by omega)).mono ?_
              rw [Q2.out]
              rintro e w7 ⟨rfl, hb7⟩
              have HB7 := Lib.hid (HB.out.trans (hb7.mono HB.out.size))
              have K1b := Lib.hid (K1.out.below hb7)
              clear hb7
              go_wp2_with fail
              refine (ihas_any _ l n w7 K1b.out (by omega)).mono ?_
              rw [Q1.out]
              rintro e w8 ⟨rfl, hb8⟩
              have HB8 := Lib.hid (HB7.out.trans (hb8.mono HB7.out.size))
              have CR8 := C6.out.trans (HB8.out.mono C6.out.size)
              have f1 := (CR8.cell (World.block_lt_of_cell? w1 _ HFC.out)).trans HFC.out
              have f2 := (CR8.cell (World.block_lt_of_cell? w1 _ HZC.out)).trans HZC.out
              have t1 : ((l.length : Int) - 1).toNat = l.length - 1 := by omega
              have t2 : (0 : Int) ≤ (l.length : Int) - 1 := by omega
              have t3 : (l.length : Int) - 1 < (l.length : Int) := by omega
              have t4 : (0 : Int) < (l.length : Int) := by omega
              clear hb8 CR8
              go_wp2_with fail
              go_roundw
              case rel => exact ⟨k + 1, by omega, by go_num, HB8.out⟩
              case measure => simp [intOf]; omega
        · have K2 := Lib.hid (I2e.out.below HB.out)
          have B7 := Lib.hid (B6.out.trans (HB.out.mono B6.out.size))
          have hq : ((r.length : Int) == (l.length : Int) - 1) = true := by rw [beq_iff_eq, HRL.out]; omega
          go_wp2_with fail
          refine (ivalid_any _ r wr K2.out (by omega)).mono ?_
          rw [HV2.out]
          rintro e w7 ⟨rfl, hb7⟩
          have B8 := Lib.hid (B7.out.trans (hb7.mono B7.out.size))
          clear hb7
          go_wp2_with fail
          go_ret
          exact ⟨by first | rfl | (rw [hq]), B8.out⟩

end Go.Proofs.Ytcjhbcibhcogjaa
