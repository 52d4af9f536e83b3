/- The law FnGuardsKnown: the walk. -/
import Derived.Test.YtakfohcnclmkbaaGdMath
import Derived.Deep.RegionHeld3
namespace Go.Proofs.Ytakfohcnclmkbaa
open Go.RowKit
set_option linter.unusedVariables false
set_option linter.unusedSimpArgs false


set_option maxRecDepth 100000 in
set_option maxHeartbeats 1000000 in
theorem guardsknown_walk (a : Option Addr) (len cap : Nat) (zs : List Int) (w : World) (h : IsRow .u8 w a len cap zs) :
    Calls Try.prog 12 #[.slice a len cap] w fun e w' => e = .returned (.bool true) ∧ Below w.heap.size w w' := by
  have H := Lib.hid h
  clear h
  by_cases hl : 1048576 < len
  · have hl' : (1048576 : Int) < (len : Int) := by omega
    go_enter Try.func12, Try.ntmps12
    go_wp2
    go_ret
    exact ⟨rfl, Below.refl _ _⟩
  have hl' : ¬ (1048576 : Int) < (len : Int) := by omega
  go_enter Try.func12, Try.ntmps12
  go_wp2_with fail
  refine (drawGd_any a len cap zs w H.out).mono ?_
  rintro e w1 ⟨v, u, l, k, x, rfl, hb, hv, hu, hd, hx⟩
  have HB1 := Lib.hid hb
  have HV1 := Lib.hid hv
  have HU1 := Lib.hid hu
  have HL := Lib.hid hd.lens
  have hll9 : l.length ≤ 9 := hd.len
  have hkl3 : k.length ≤ 3 := hd.klen
  have HXK : Hid (i64ok x) := Lib.hid (i64ok_of hx.ok.1 hx.ok.2)
  have SV : Hid (∀ W, Bxs W v l → Calls Try.prog 20 #[v] W fun e w' => e = .returned (.bool (bsok l)) ∧ Below W.heap.size W w') := Lib.hid fun W hW => sboxes_any v l W hW (by omega) HL.out.2.1
  obtain ⟨va, vc, rfl⟩ := hv.shape
  obtain ⟨ua, uc, rfl⟩ := hu.shape
  clear hb hv hu hd hx
  have IO := Lib.hid (iguards_any (.slice va l.length vc) (.slice ua k.length uc) l k x w1 HV1.out HU1.out HL.out.1 HL.out.2.1 HL.out.2.2 HXK.out)
  have SO := Lib.hid (fun W hW hU => sguards_any (.slice va l.length vc) (.slice ua k.length uc) l k x W hW hU HL.out.1 HL.out.2.1 HL.out.2.2)
  have HGM : Hid (∀ g : Int, 1 ≤ g → g ≤ 20 → decide (g ∈ guardsL l k x) = (db l k x && !db (without l g) k x)) := Lib.hid fun g h1 h2 => guards_mem h1 h2
  have hol := guards_len l k x
  have HGK : Hid (∀ g ∈ guardsL l k x, db l k g = true) := Lib.hid fun g hg => guards_known hg
  have HGN : Hid (guardsL l k x ≠ [] → x ∉ k) := Lib.hid fun h => guards_not h
  generalize guardsL l k x = os at *
  go_wp2_with fail
  refine IO.out.mono ?_
  rintro e w2 ⟨ov, rfl, hb, ho⟩
  have HB2 := Lib.hid (HB1.out.trans (hb.mono HB1.out.size))
  have HV2 := Lib.hid (HV1.out.below hb)
  have HU2 := Lib.hid (HU1.out.below hb)
  have HO2 := Lib.hid ho.ints
  obtain ⟨oa, oc, rfl⟩ := ho.shape
  clear hb ho IO
  go_wp2_with fail
  refine (SO.out w2 HV2.out HU2.out).mono ?_
  rintro e w3 ⟨sv, rfl, hb, hs⟩
  have HB3 := Lib.hid (HB2.out.trans (hb.mono HB2.out.size))
  have HV3 := Lib.hid (HV2.out.below hb)
  have HU3 := Lib.hid (HU2.out.below hb)
  have HO3 := Lib.hid (HO2.out.below hb)
  have HS3 := Lib.hid hs.ints
  obtain ⟨sa, sc, rfl⟩ := hs.shape
  clear hb hs SO
  have HSS : Hid ((os == os) = true) := Lib.hid (beq_self_eq_true os)
  go_wp2_with fail
  refine (same_any _ _ os os w3 HO3.out HS3.out (by omega) (by omega)).mono ?_
  rw [HSS.out]
  rintro e w4 ⟨rfl, hb⟩
  have HB4 := Lib.hid (HB3.out.trans (hb.mono HB3.out.size))
  have HV4 := Lib.hid (HV3.out.below hb)
  have HU4 := Lib.hid (HU3.out.below hb)
  have HO4 := Lib.hid (HO3.out.below hb)
  have HS4 := Lib.hid (HS3.out.below hb)
  clear hb
  have B4 : Hid (Below w4.heap.size w4 w4) := Lib.hid (Below.refl _ _)
  clear HB1 HV1 HU1 HB2 HV2 HU2 HO2 HB3 HV3 HU3 HO3 HS3 HS4
  go_wp2_with fail
  go_loopw [8] (fun iv wr => ∃ j : Nat, j ≤ os.length ∧ iv = .int .i64 (j : Int) ∧ Hid (Below w4.heap.size w4 wr)) (fun iv _ => os.length - (intOf iv).toNat)
  case atStart => exact ⟨0, Nat.zero_le _, rfl, B4⟩
  case round =>
    clear B4
    obtain ⟨j, hj, rfl, HB⟩ := hrel
    by_cases hlt : j < os.length
    · have hlt' : (j : Int) < (os.length : Int) := by omega
      obtain ⟨g, o, rfl, e1, hx⟩ := cell_at (HO4.out.below HB.out) hlt
      have HK := Lib.hid (HGK.out _ hx)
      have HAT : Hid (i64ok (os.getD j 0)) := Lib.hid (by
        have := (db_iff.1 HK.out).atom
        exact i64ok_of (by omega) (by omega))
      generalize os.getD j 0 = y at *
      clear hx
      have ID := Lib.hid (idble_any (.slice va l.length vc) (.slice ua k.length uc) l k y wr (HV4.out.below HB.out) (HU4.out.below HB.out) (by omega) HL.out.2.1 (by omega) HAT.out)
      rw [HK.out] at ID
      go_wp2_with fail
      refine ID.out.mono ?_
      rintro e w5 ⟨rfl, hb⟩
      have HB5 := Lib.hid (HB.out.trans (hb.mono HB.out.size))
      clear hb e1 ID
      go_wp2_with fail
      go_roundw
      case rel => exact ⟨j + 1, by omega, by go_num, HB5⟩
      case measure => simp [intOf]; omega
    · have hlt' : ¬ (j : Int) < (os.length : Int) := by omega
      by_cases h0 : os.length = 0
      · have hb0 : ((os.length : Int) == 0) = true := by rw [beq_iff_eq]; omega
        clear h0
        go_wp2_with fail
        go_ret
        exact ⟨rfl, HB4.out.trans (HB.out.mono HB4.out.size)⟩
      have hb0 : ((os.length : Int) == 0) = false := by rw [beq_eq_false_iff_ne]; omega
      have HNK : Hid (decide (x ∈ k) = false) := Lib.hid (decide_eq_false (HGN.out (by rintro rfl; simp at h0)))
      clear h0
      go_wp2_with fail
      refine (lhas_any _ k x wr (HU4.out.below HB.out) (by omega)).mono ?_
      rw [HNK.out]
      rintro e w5 ⟨rfl, hb⟩
      have HB5 := Lib.hid (HB.out.trans (hb.mono HB.out.size))
      clear hb
      go_wp2_with fail
      go_ret
      exact ⟨rfl, HB4.out.trans (HB5.out.mono HB4.out.size)⟩

end Go.Proofs.Ytakfohcnclmkbaa
