/- The law FnDeriveClosed: the walk. -/
import Derived.Test.YtakfohcnclmkbaaLawD
namespace Go.Proofs.Ytakfohcnclmkbaa
open Go.RowKit
set_option linter.unusedVariables false
set_option linter.unusedSimpArgs false

theorem closed_known {l : List Bx} {k ds : List Int} (h : DsOk l k ds) (hno : ∀ b ∈ l, b.1 ∉ k) {x : Int} (hx : x ∈ ds) : x ∈ k :=
  Der.least (S := fun a => a ∈ k) (fun a ha => ha) (fun b hb hs => absurd hs (hno b hb)) ((h.mem x).1 hx).2

set_option maxRecDepth 100000 in
set_option maxHeartbeats 1000000 in
theorem deriveclosed_walk (a : Option Addr) (len cap : Nat) (zs : List Int) (w : World) (h : IsRow .u8 w a len cap zs) :
    Calls Try.prog 13 #[.slice a len cap] w fun e w' => e = .returned (.bool true) ∧ Below w.heap.size w w' := by
  have H := Lib.hid h
  clear h
  by_cases hl : 1048576 < len
  · have hl' : (1048576 : Int) < (len : Int) := by omega
    go_enter Try.func13, Try.ntmps13
    go_wp2
    go_ret
    exact ⟨rfl, Below.refl _ _⟩
  have hl' : ¬ (1048576 : Int) < (len : Int) := by omega
  go_enter Try.func13, Try.ntmps13
  go_wp2_with fail
  refine (drawDe_any a len cap zs w H.out).mono ?_
  rintro e w1 ⟨v, u, l, k, rfl, hb, hv, hu, hd, hnn⟩
  have HB1 := Lib.hid hb
  have HDL := Lib.hid hd
  have HV1 := Lib.hid hv
  have HU1 := Lib.hid hu
  have HL := Lib.hid hd.lens
  have SV : Hid (∀ W, Bxs W v l → Calls Try.prog 20 #[v] W fun e w' => e = .returned (.bool (bsok l)) ∧ Below W.heap.size W w') := Lib.hid fun W hW => sboxes_any v l W hW (by have := HL.out.1; omega) HL.out.2.1
  obtain ⟨va, vc, rfl⟩ := hv.shape
  obtain ⟨ua, uc, rfl⟩ := hu.shape
  have HNN : Hid ((Value.slice ua k.length uc).ownBlock ≠ none ∨ Value.slice ua k.length uc = .slice none 0 0) := Lib.hid (.inl hnn)
  clear hb hv hu hd hnn
  go_wp2_with fail
  refine (ider_any _ _ l k w1 HV1.out HU1.out (by have := HL.out.1; omega) HL.out.2.1 HL.out.2.2).mono ?_
  rintro e w2 ⟨ov, rfl, hb, ho, hn⟩
  have HB2 := Lib.hid (HB1.out.trans (hb.mono HB1.out.size))
  have HV2 := Lib.hid (HV1.out.below hb)
  have HU2 := Lib.hid (HU1.out.below hb)
  have HO2 := Lib.hid ho.ints
  have HON := Lib.hid ho.nn
  have HDM : Hid (DsOk l k (dl l k)) := Lib.hid (DsOk.mk' l k)
  have SD := Lib.hid (fun W hW hU => sder_any (.slice va l.length vc) (.slice ua k.length uc) l k W hW hU (by have := HL.out.1; omega) HL.out.2.1 HL.out.2.2)
  obtain ⟨oa, oc, rfl⟩ := ho.shape
  obtain ⟨ds, hds⟩ : ∃ ds, dl l k = ds := ⟨_, rfl⟩
  have HDS := Lib.hid hds
  rw [hds] at HO2 HDM SD HON
  rw [hds]
  clear hb ho hn hds HV1 HU1
  go_wp2_with fail
  refine (SD.out w2 HV2.out HU2.out).mono ?_
  rintro e w3 ⟨sv, rfl, hb, hs⟩
  have HB3 := Lib.hid (HB2.out.trans (hb.mono HB2.out.size))
  have HV3 := Lib.hid (HV2.out.below hb)
  have HU3 := Lib.hid (HU2.out.below hb)
  have HO3 := Lib.hid (HO2.out.below hb)
  have HS3 := Lib.hid hs.ints
  obtain ⟨sa, sc, rfl⟩ := hs.shape
  clear hb hs HV2 HU2 HO2 SD
  have hdl20 : ds.length ≤ 20 := HDM.out.len
  have HSS : Hid ((ds == ds) = true) := Lib.hid (beq_self_eq_true ds)
  go_wp2_with fail
  refine (same_any _ _ ds ds w3 HO3.out HS3.out (by omega) (by omega)).mono ?_
  rw [HSS.out]
  rintro e w4 ⟨rfl, hb⟩
  have HB4 := Lib.hid (HB3.out.trans (hb.mono HB3.out.size))
  have HV4 := Lib.hid (HV3.out.below hb)
  have HU4 := Lib.hid (HU3.out.below hb)
  have HO4 := Lib.hid (HO3.out.below hb)
  have HS4 := Lib.hid (HS3.out.below hb)
  clear hb HV3 HU3 HO3 HS3
  by_cases h0 : ds.length = 0
  · have hb0 : ((ds.length : Int) == 0) = true := by rw [beq_iff_eq]; omega
    clear h0
    go_wp2_with fail
    refine (same_any _ _ ds ds w4 HO4.out HS4.out (by omega) (by omega)).mono ?_
    rw [HSS.out]
    rintro e w5 ⟨rfl, hb⟩
    have HB5 := Lib.hid (HB4.out.trans (hb.mono HB4.out.size))
    clear hb
    go_wp2_with fail
    go_ret
    exact ⟨rfl, HB5.out⟩
  have hb0 : ((ds.length : Int) == 0) = false := by rw [beq_eq_false_iff_ne]; omega
  have HNE : Hid (ds ≠ []) := Lib.hid (by rintro rfl; simp at h0)
  clear h0
  have B4 : Hid (Below w4.heap.size w4 w4) := Lib.hid (Below.refl _ _)
  have HKL : k.length ≤ 1048576 := HL.out.2.2
  have HLL : l.length ≤ 900000 := HL.out.1
  go_wp2_with fail
  go_loopw [7] (fun iv wr => ∃ j : Nat, j ≤ l.length ∧ iv = .int .i64 (j : Int) ∧ Hid (∀ b ∈ l.take j, b.1 ∉ k) ∧ Hid (Below w4.heap.size w4 wr)) (fun iv _ => l.length - (intOf iv).toNat)
  case atStart => exact ⟨0, Nat.zero_le _, rfl, Lib.hid (by simp), B4⟩
  case round =>
    clear B4
    obtain ⟨j, hj, rfl, HN, HB⟩ := hrel
    by_cases hlt : j < l.length
    · have hlt' : (j : Int) < (l.length : Int) := by omega
      obtain ⟨g, o, ra, rc, rfl, ⟨c0, c1, _⟩, _⟩ := box_at (HV4.out.below HB.out) hlt
      have HT := Lib.hid (takeB l j hlt).1
      generalize l.getD j bxD = b at *
      obtain ⟨key, ins⟩ := b
      simp only at c0 c1
      cases hq : decide (key ∈ k) with
      | true =>
        have HQ := Lib.hid hq
        clear hq
        go_wp2_with fail
        refine (lhas_any _ k key wr (HU4.out.below HB.out) (by omega)).mono ?_
        rw [HQ.out]
        rintro e w5 ⟨rfl, hb⟩
        have HB5 := Lib.hid (HB.out.trans (hb.mono HB.out.size))
        clear hb
        go_wp2_with fail
        go_ret
        exact ⟨rfl, HB4.out.trans (HB5.out.mono HB4.out.size)⟩
      | false =>
        have HQ := Lib.hid hq
        clear hq
        go_wp2_with fail
        refine (lhas_any _ k key wr (HU4.out.below HB.out) (by omega)).mono ?_
        rw [HQ.out]
        rintro e w5 ⟨rfl, hb⟩
        have HB5 := Lib.hid (HB.out.trans (hb.mono HB.out.size))
        clear hb
        go_wp2_with fail
        go_roundw
        case rel =>
          refine ⟨j + 1, by omega, by go_num, Lib.hid fun z hz => ?_, HB5⟩
          rw [HT.out, List.mem_append] at hz
          rcases hz with hz | hz
          · exact HN.out z hz
          · rw [List.mem_singleton.1 hz]; exact of_decide_eq_false HQ.out
        case measure => simp [intOf]; omega
    · have hlt' : ¬ (j : Int) < (l.length : Int) := by omega
      have hN := HN.out
      rw [List.take_of_length_le (by omega)] at hN
      have HN2 := Lib.hid hN
      clear hN HN
      go_wp2_with fail
      go_loopw [8] (fun iv wr => ∃ i : Nat, i ≤ ds.length ∧ iv = .int .i64 (i : Int) ∧ Hid (Below w4.heap.size w4 wr)) (fun iv _ => ds.length - (intOf iv).toNat)
      case atStart => exact ⟨0, Nat.zero_le _, rfl, HB⟩
      case round =>
        clear HB
        obtain ⟨i, hi, rfl, HB⟩ := hrel
        by_cases hil : i < ds.length
        · have hil' : (i : Int) < (ds.length : Int) := by omega
          obtain ⟨g, o, rfl, e1, hx⟩ := cell_at (HO4.out.below HB.out) hil
          generalize ds.getD i 0 = x at *
          have HX : Hid (decide (x ∈ k) = true) := Lib.hid (decide_eq_true (closed_known HDM.out HN2.out hx))
          clear hx
          go_wp2_with fail
          refine (lhas_any _ k x wr (HU4.out.below HB.out) (by omega)).mono ?_
          rw [HX.out]
          rintro e w5 ⟨rfl, hb⟩
          have HB5 := Lib.hid (HB.out.trans (hb.mono HB.out.size))
          clear hb
          go_wp2_with fail
          go_roundw
          case rel => exact ⟨i + 1, by omega, by go_num, HB5⟩
          case measure => simp [intOf]; omega
        · have hil' : ¬ (i : Int) < (ds.length : Int) := by omega
          go_wp2_with fail
          go_ret
          exact ⟨rfl, HB4.out.trans (HB.out.mono HB4.out.size)⟩

end Go.Proofs.Ytakfohcnclmkbaa
