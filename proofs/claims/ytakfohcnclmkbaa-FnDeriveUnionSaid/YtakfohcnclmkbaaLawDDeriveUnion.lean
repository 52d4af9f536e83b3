/- The law FnDeriveUnion: the walk. -/
import Derived.Test.YtakfohcnclmkbaaLawD
namespace Go.Proofs.Ytakfohcnclmkbaa
open Go.RowKit
set_option linter.unusedVariables false
set_option linter.unusedSimpArgs false

theorem kok_union {l : List Bx} {k k2 : List Int} (h1 : kok k = true) (h2 : kok k2 = true) (hl : k.length + k2.length ≤ 20) : kok (k ++ k2) = true := by
  refine kok_iff.2 ⟨by simp; omega, fun a ha => ?_⟩
  rcases List.mem_append.1 ha with ha | ha
  · exact (kok_iff.1 h1).2 a ha
  · exact (kok_iff.1 h2).2 a ha
theorem union_mem {l : List Bx} {k k2 ds ds2 : List Int} (h : DsOk l k ds) (h2 : DsOk l k2 ds2) (hl : k.length + k2.length ≤ 20) (hne : ds ≠ []) (hne2 : ds2 ≠ []) {x : Int} (hx : x ∈ ds ++ ds2) : x ∈ dl l (k ++ k2) := by
  have hv := h.valid hne
  have hv2 := h2.valid hne2
  refine mem_dl.2 ⟨⟨hv.1, kok_union (l := l) hv.2 hv2.2 hl⟩, ?_⟩
  rcases List.mem_append.1 hx with hx | hx
  · exact Der.mono (fun b hb => hb) (fun a ha => List.mem_append_left _ ha) ((h.mem x).1 hx).2
  · exact Der.mono (fun b hb => hb) (fun a ha => List.mem_append_right _ ha) ((h2.mem x).1 hx).2

set_option maxRecDepth 100000 in
set_option maxHeartbeats 1000000 in
theorem deriveunion_walk (a : Option Addr) (len cap : Nat) (zs : List Int) (a2 : Option Addr) (len2 cap2 : Nat) (zs2 : List Int) (w : World) (h : IsRow .u8 w a len cap zs) (h2 : IsRow .u8 w a2 len2 cap2 zs2) :
    Calls Try.prog 14 #[.slice a len cap, .slice a2 len2 cap2] w fun e w' => e = .returned (.bool true) ∧ Below w.heap.size w w' := by
  have H := Lib.hid h
  have H2 := Lib.hid h2
  clear h2
  clear h
  by_cases hl : 1048576 < len
  · have hl' : (1048576 : Int) < (len : Int) := by omega
    go_enter Try.func14, Try.ntmps14
    go_wp2
    go_ret
    exact ⟨rfl, Below.refl _ _⟩
  have hl' : ¬ (1048576 : Int) < (len : Int) := by omega
  by_cases hl2 : 1048576 < len2
  · have hl2' : (1048576 : Int) < (len2 : Int) := by omega
    go_enter Try.func14, Try.ntmps14
    go_wp2
    go_ret
    exact ⟨rfl, Below.refl _ _⟩
  have hl2' : ¬ (1048576 : Int) < (len2 : Int) := by omega
  go_enter Try.func14, Try.ntmps14
  go_wp2_with fail
  refine (drawDe_any a len cap zs w H.out).mono ?_
  rintro e w1 ⟨v, u, l, k, rfl, hb, hv, hu, hd, hnn⟩
  have HB1 := Lib.hid hb
  have HDL := Lib.hid hd
  have HV1 := Lib.hid hv
  have HU1 := Lib.hid hu
  have HL := Lib.hid hd.lens
  have SV : Hid (∀ W, Bxs W v l → Calls Try.prog 20 #[v] W fun e w' => e = .returned (.bool (bsok l)) ∧ Below W.heap.size W w') := Lib.hid fun W hW => sboxes_any v l W hW (by have := HL.out.1; omega) HL.out.2.1
  obtain ⟨va, vc, rfl⟩ := hv.shape
  obtain ⟨ua, uc, rfl⟩ := hu.shape
  have HNN : Hid ((Value.slice ua k.length uc).ownBlock ≠ none ∨ Value.slice ua k.length uc = .slice none 0 0) := Lib.hid (.inl hnn)
  clear hb hv hu hd hnn
  go_wp2_with fail
  refine (ider_any _ _ l k w1 HV1.out HU1.out (by have := HL.out.1; omega) HL.out.2.1 HL.out.2.2).mono ?_
  rintro e w2 ⟨ov, rfl, hb, ho, hn⟩
  have HB2 := Lib.hid (HB1.out.trans (hb.mono HB1.out.size))
  have HV2 := Lib.hid (HV1.out.below hb)
  have HU2 := Lib.hid (HU1.out.below hb)
  have HO2 := Lib.hid ho.ints
  have HON := Lib.hid ho.nn
  have HDM : Hid (DsOk l k (dl l k)) := Lib.hid (DsOk.mk' l k)
  have SD := Lib.hid (fun W hW hU => sder_any (.slice va l.length vc) (.slice ua k.length uc) l k W hW hU (by have := HL.out.1; omega) HL.out.2.1 HL.out.2.2)
  obtain ⟨oa, oc, rfl⟩ := ho.shape
  obtain ⟨ds, hds⟩ : ∃ ds, dl l k = ds := ⟨_, rfl⟩
  have HDS := Lib.hid hds
  rw [hds] at HO2 HDM SD HON
  rw [hds]
  clear hb ho hn hds HV1 HU1
  go_wp2_with fail
  refine (SD.out w2 HV2.out HU2.out).mono ?_
  rintro e w3 ⟨sv, rfl, hb, hs⟩
  have HB3 := Lib.hid (HB2.out.trans (hb.mono HB2.out.size))
  have HV3 := Lib.hid (HV2.out.below hb)
  have HU3 := Lib.hid (HU2.out.below hb)
  have HO3 := Lib.hid (HO2.out.below hb)
  have HS3 := Lib.hid hs.ints
  obtain ⟨sa, sc, rfl⟩ := hs.shape
  clear hb hs HV2 HU2 HO2 SD
  have hdl20 : ds.length ≤ 20 := HDM.out.len
  have HSS : Hid ((ds == ds) = true) := Lib.hid (beq_self_eq_true ds)
  go_wp2_with fail
  refine (same_any _ _ ds ds w3 HO3.out HS3.out (by omega) (by omega)).mono ?_
  rw [HSS.out]
  rintro e w4 ⟨rfl, hb⟩
  have HB4 := Lib.hid (HB3.out.trans (hb.mono HB3.out.size))
  have HV4 := Lib.hid (HV3.out.below hb)
  have HU4 := Lib.hid (HU3.out.below hb)
  have HO4 := Lib.hid (HO3.out.below hb)
  have HS4 := Lib.hid (HS3.out.below hb)
  clear hb HV3 HU3 HO3 HS3
  have hkl3 : k.length ≤ 3 := HDL.out.klen
  have hll9 : l.length ≤ 9 := HDL.out.len
  cases hq : bsok l with
  | false =>
    have HQ := Lib.hid hq
    clear hq
    go_wp2_with fail
    refine (SV.out _ HV4.out).mono ?_
    rw [HQ.out]
    rintro e w5 ⟨rfl, hb⟩
    have HB5 := Lib.hid (HB4.out.trans (hb.mono HB4.out.size))
    have HO5 := Lib.hid (HO4.out.below hb)
    have HS5 := Lib.hid (HS4.out.below hb)
    clear hb
    go_wp2_with fail
    refine (same_any _ _ ds ds w5 HO5.out HS5.out (by omega) (by omega)).mono ?_
    rw [HSS.out]
    rintro e w6 ⟨rfl, hb⟩
    have HB6 := Lib.hid (HB5.out.trans (hb.mono HB5.out.size))
    clear hb
    go_wp2_with fail
    go_ret
    exact ⟨rfl, HB6.out⟩
  | true =>
  have HQ := Lib.hid hq
  clear hq
  go_wp2_with fail
  refine (SV.out _ HV4.out).mono ?_
  rw [HQ.out]
  rintro e w5 ⟨rfl, hb⟩
  have HB5 := Lib.hid (HB4.out.trans (hb.mono HB4.out.size))
  have HV5 := Lib.hid (HV4.out.below hb)
  have HU5 := Lib.hid (HU4.out.below hb)
  have HO5 := Lib.hid (HO4.out.below hb)
  clear hb
  go_wp2_with fail
  refine (drawDe_any a2 len2 cap2 zs2 w5 (H2.out.below HB5.out)).mono ?_
  rintro e w6 ⟨v2, u2, l2, k2, rfl, hb, hv2, hu2, hd2, hnn2⟩
  have HB6 := Lib.hid hb
  have HK2 := Lib.hid hd2.klen
  have HU6 := Lib.hid hu2
  have HN2 : Hid (u2.ownBlock ≠ none ∨ u2 = .slice none 0 0) := Lib.hid (.inl hnn2)
  obtain ⟨va2, vc2, rfl⟩ := hv2.shape
  obtain ⟨ua2, uc2, rfl⟩ := hu2.shape
  have hk23 : k2.length ≤ 3 := hd2.klen
  clear hb hv2 hu2 hd2 hnn2
  have ID2 := Lib.hid (ider_any (.slice va l.length vc) (.slice ua2 k2.length uc2) l k2 w6 (HV5.out.below HB6.out) HU6.out (by omega) HL.out.2.1 (by omega))
  have HDM2 : Hid (DsOk l k2 (dl l k2)) := Lib.hid (DsOk.mk' l k2)
  generalize dl l k2 = ds2 at *
  have hdl2 : ds2.length ≤ 20 := HDM2.out.len
  go_wp2_with fail
  refine ID2.out.mono ?_
  rintro e w7 ⟨v7, rfl, hb, ho, _⟩
  have HB7 := Lib.hid (HB6.out.trans (hb.mono HB6.out.size))
  have HX7 := Lib.hid ho.ints
  have HN7 := Lib.hid ho.nn
  have HU7 := Lib.hid (HU6.out.below hb)
  obtain ⟨va7, vc7, rfl⟩ := ho.shape
  clear hb ho
  have hBA : Below w7.heap.size w7 (w7.alloc (.cells #[] 3)) := (Below.refl _ _).alloc (Nat.le_refl _) _
  have HBA := Lib.hid hBA
  have HOA := Lib.hid (OwnI.new w7.heap.size w7 (Nat.le_refl _))
  have HUA := Lib.hid ((HU5.out.below HB7.out).below hBA)
  clear hBA
  go_wp2_with (at_builtin; refine wpList_app_ints _ rfl _ _ rfl w7.heap.size _ [] rfl HOA.out _ k rfl HUA.out HNN.out ?c1 ?c2 ?c3 ?_)
  case c1 => simp
  case c2 => omega
  case c3 => exact HBA.out.size
  intro v8 w8 ho hgr _
  have HB8 : Hid (Below w7.heap.size w7 w8) := Lib.hid (HBA.out.grown hgr HBA.out.size (fun j hj => by simp only [Value.ownBlock] at hj; injection hj with hj; omega))
  have HO8 : Hid (OwnI w8 w7.heap.size v8 k) := Lib.hid (by simpa using ho)
  have HU8 := Lib.hid (HU7.out.below HB8.out)
  obtain ⟨va8, vc8, rfl⟩ := HO8.out.shape
  clear ho hgr HUA HOA
  go_wp2_with (at_builtin; refine wpList_app_ints _ rfl _ _ rfl w7.heap.size _ k rfl HO8.out _ k2 rfl HU8.out HN2.out ?c1 ?c2 ?c3 ?_)
  case c1 => omega
  case c2 => omega
  case c3 => exact HB8.out.size
  intro v9 w9 ho hgr _
  have HB9 : Hid (Below w7.heap.size w7 w9) := Lib.hid (HB8.out.grown hgr HB8.out.size (fun j hj => (HO8.out.lt hj).1))
  have HO9 := Lib.hid ho.ints
  clear ho hgr HU8 HO8
  have hk9 : (k ++ k2).length ≤ 1048576 := by simp; omega
  have HMORE : Hid (ds ≠ [] → ds2 ≠ [] → ∀ y ∈ ds ++ ds2, y ∈ dl l (k ++ k2)) := Lib.hid fun h1 h2 y hy => union_mem HDM.out HDM2.out (by omega) h1 h2 hy
  have ID := Lib.hid (ider_any (.slice va l.length vc) v9 l (k ++ k2) w9 ((HV5.out.below HB7.out).below HB9.out) HO9.out (by omega) HL.out.2.1 hk9)
  have hal := dl_len l (k ++ k2)
  obtain ⟨va9, vc9, hv9⟩ := HO9.out.shape
  generalize dl l (k ++ k2) = all at *
  clear hk9
  generalize k ++ k2 = k9 at *
  subst hv9
  go_wp2_with fail
  refine ID.out.mono ?_
  rintro e w10 ⟨v10, rfl, hb, ho, _⟩
  obtain ⟨va10, vc10, rfl⟩ := ho.shape
  have HB10 : Hid (Below w5.heap.size w5 w10) := Lib.hid (HB7.out.trans ((HB9.out.trans (hb.mono HB9.out.size)).mono HB7.out.size))
  have HA10 := Lib.hid ho.ints
  have HX10 := Lib.hid (HX7.out.below (HB9.out.trans (hb.mono HB9.out.size)))
  have HO10 := Lib.hid (HO5.out.below HB10.out)
  clear hb ho
  have B10 : Hid (Below w10.heap.size w10 w10) := Lib.hid (Below.refl _ _)
  go_wp2_with fail
  have hws : IntKind.i64.wrap ((ds.length : Int) + (ds2.length : Int)) = (ds.length : Int) + (ds2.length : Int) := IntWalk.i64_in _ (by omega)
  go_loopw [13] (fun iv wr => ∃ i : Nat, i ≤ ds.length + ds2.length ∧ iv = .int .i64 (i : Int) ∧ Hid (Below w10.heap.size w10 wr)) (fun iv _ => ds.length + ds2.length - (intOf iv).toNat)
  case atStart => exact ⟨0, Nat.zero_le _, rfl, B10⟩
  case round =>
    clear B10
    obtain ⟨i, hi, rfl, HB⟩ := hrel
    by_cases hil : i < ds.length + ds2.length
    · have hil' : (i : Int) < (ds.length : Int) + (ds2.length : Int) := by omega
      have hBA : Below wr.heap.size wr (wr.alloc (.cells #[] 3)) := (Below.refl _ _).alloc (Nat.le_refl _) _
      have HBA := Lib.hid hBA
      have HOA := Lib.hid (OwnI.new wr.heap.size wr (Nat.le_refl _))
      have HUA := Lib.hid ((HO10.out.below HB.out).below hBA)
      have HUX := Lib.hid (HX10.out.below HB.out)
      have HALL := Lib.hid (HA10.out.below HB.out)
      clear hBA
      go_wp2_with (at_builtin; refine wpList_app_ints _ rfl _ _ rfl wr.heap.size _ [] rfl HOA.out _ ds rfl HUA.out HON.out ?c1 ?c2 ?c3 ?_)
      case c1 => simp
      case c2 => omega
      case c3 => exact HBA.out.size
      intro v8 w8 ho hgr _
      have HB8 : Hid (Below wr.heap.size wr w8) := Lib.hid (HBA.out.grown hgr HBA.out.size (fun j hj => by simp only [Value.ownBlock] at hj; injection hj with hj; omega))
      have HO8 : Hid (OwnI w8 wr.heap.size v8 ds) := Lib.hid (by simpa using ho)
      have HU8 := Lib.hid (HUX.out.below HB8.out)
      obtain ⟨va8, vc8, rfl⟩ := HO8.out.shape
      clear ho hgr HUA HOA
      go_wp2_with (at_builtin; refine wpList_app_ints _ rfl _ _ rfl wr.heap.size _ ds rfl HO8.out _ ds2 rfl HU8.out HN7.out ?c1 ?c2 ?c3 ?_)
      case c1 => omega
      case c2 => omega
      case c3 => exact HB8.out.size
      intro v9 w9 ho hgr _
      have HB9 : Hid (Below wr.heap.size wr w9) := Lib.hid (HB8.out.grown hgr HB8.out.size (fun j hj => (HO8.out.lt hj).1))
      have hints := ho.ints
      obtain ⟨va9, vc9, rfl⟩ := hints.shape
      have hlen : (ds ++ ds2).length = ds.length + ds2.length := by simp
      obtain ⟨g, o, rfl, e1, hx⟩ := cell_at hints (i := i) (by omega)
      rw [hlen]
      obtain ⟨x, hxx⟩ : ∃ x, (ds ++ ds2).getD i 0 = x := ⟨_, rfl⟩
      rw [hxx] at e1 hx
      have HXM := Lib.hid hx
      have hi0 : (0 : Int) ≤ (i : Int) := by omega
      have hi1 : (i : Int) < ((ds.length + ds2.length : Nat) : Int) := by omega
      clear ho hgr HU8 HO8 hxx hx hints hlen
      cases hq : decide (x ∈ all) with
      | true =>
        have HQX := Lib.hid hq
        clear hq
        go_wp2_with fail
        refine (lhas_any _ all x w9 (HALL.out.below HB9.out) (by omega)).mono ?_
        rw [HQX.out]
        rintro e w11 ⟨rfl, hb⟩
        have HB11 := Lib.hid (HB.out.trans ((HB9.out.trans (hb.mono HB9.out.size)).mono HB.out.size))
        clear hb
        go_wp2_with fail
        go_roundw
        case rel => exact ⟨i + 1, by omega, by go_num, HB11⟩
        case measure => simp [intOf]; omega
      | false =>
        have HQX := Lib.hid hq
        have HQN := Lib.hid (of_decide_eq_false hq)
        clear hq
        by_cases h1 : 0 < (ds.length : Int)
        · by_cases h2 : 0 < (ds2.length : Int)
          · exact absurd (HMORE.out (by rintro rfl; simp at h1) (by rintro rfl; simp at h2) x HXM.out) HQN.out
          · go_wp2_with fail
            refine (lhas_any _ all x w9 (HALL.out.below HB9.out) (by omega)).mono ?_
            rw [HQX.out]
            rintro e w11 ⟨rfl, hb⟩
            have HB11 := Lib.hid (HB.out.trans ((HB9.out.trans (hb.mono HB9.out.size)).mono HB.out.size))
            clear hb
            go_wp2_with fail
            go_roundw
            case rel => exact ⟨i + 1, by omega, by go_num, HB11⟩
            case measure => simp [intOf]; omega
        · go_wp2_with fail
          refine (lhas_any _ all x w9 (HALL.out.below HB9.out) (by omega)).mono ?_
          rw [HQX.out]
          rintro e w11 ⟨rfl, hb⟩
          have HB11 := Lib.hid (HB.out.trans ((HB9.out.trans (hb.mono HB9.out.size)).mono HB.out.size))
          clear hb
          go_wp2_with fail
          go_roundw
          case rel => exact ⟨i + 1, by omega, by go_num, HB11⟩
          case measure => simp [intOf]; omega
    · have hil' : ¬ (i : Int) < (ds.length : Int) + (ds2.length : Int) := by omega
      go_wp2_with fail
      go_ret
      exact ⟨rfl, HB5.out.trans ((HB10.out.trans (HB.out.mono HB10.out.size)).mono HB5.out.size)⟩

end Go.Proofs.Ytakfohcnclmkbaa
