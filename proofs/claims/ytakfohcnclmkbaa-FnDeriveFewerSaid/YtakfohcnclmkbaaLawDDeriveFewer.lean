/- The law FnDeriveFewer: the walk. -/
import Derived.Test.YtakfohcnclmkbaaLawD
import Derived.Test.YtakfohcnclmkbaaDrDc
import Derived.Test.YtakfohcnclmkbaaAppBx
import Derived.Deep.RegionHeld3
namespace Go.Proofs.Ytakfohcnclmkbaa
open Go.RowKit
set_option linter.unusedVariables false
set_option linter.unusedSimpArgs false

theorem dl_fewer {l l' : List Bx} {k ds : List Int} (h : DsOk l k ds) (hl : ∀ b ∈ l', b ∈ l) (hv : bsok l = true) {x : Int} (hx : x ∈ dl l' k) : x ∈ ds := by
  have hd := mem_dl.1 hx
  exact (h.mem x).2 ⟨⟨hv, hd.1.2⟩, Der.mono hl (fun _ h => h) hd.2⟩

set_option maxRecDepth 100000 in
set_option maxHeartbeats 1000000 in
theorem derivefewer_walk (a : Option Addr) (len cap : Nat) (zs : List Int) (a2 : Option Addr) (len2 cap2 : Nat) (zs2 : List Int) (w : World) (h : IsRow .u8 w a len cap zs) (h2 : IsRow .u8 w a2 len2 cap2 zs2) :
    Calls Try.prog 6 #[.slice a len cap, .slice a2 len2 cap2] w fun e w' => e = .returned (.bool true) ∧ Below w.heap.size w w' := by
  have H := Lib.hid h
  have H2 := Lib.hid h2
  clear h2
  clear h
  by_cases hl : 1048576 < len
  · have hl' : (1048576 : Int) < (len : Int) := by omega
    go_enter Try.func6, Try.ntmps6
    go_wp2
    go_ret
    exact ⟨rfl, Below.refl _ _⟩
  have hl' : ¬ (1048576 : Int) < (len : Int) := by omega
  by_cases hl2 : 1048576 < len2
  · have hl2' : (1048576 : Int) < (len2 : Int) := by omega
    go_enter Try.func6, Try.ntmps6
    go_wp2
    go_ret
    exact ⟨rfl, Below.refl _ _⟩
  have hl2' : ¬ (1048576 : Int) < (len2 : Int) := by omega
  go_enter Try.func6, Try.ntmps6
  go_wp2_with fail
  refine (drawDeC_any a len cap zs w H.out).mono ?_
  rintro e w1 ⟨v, u, l, k, rfl, hb, hv, hu, hd, hnn, hcap⟩
  have HB1 := Lib.hid hb
  have HDL := Lib.hid hd
  have HV1 := Lib.hid hv
  have HU1 := Lib.hid hu
  have HL := Lib.hid hd.lens
  have SV : Hid (∀ W, Bxs W v l → Calls Try.prog 20 #[v] W fun e w' => e = .returned (.bool (bsok l)) ∧ Below W.heap.size W w') := Lib.hid fun W hW => sboxes_any v l W hW (by have := HL.out.1; omega) HL.out.2.1
  obtain ⟨va, vc, rfl⟩ := hv.shape
  obtain ⟨ua, uc, rfl⟩ := hu.shape
  have HNN : Hid ((Value.slice ua k.length uc).ownBlock ≠ none ∨ Value.slice ua k.length uc = .slice none 0 0) := Lib.hid (.inl hnn)
  have HCAP : Hid (l.length ≤ vc ∧ vc ≤ maxLen) := Lib.hid (hcap _ _ _ rfl)
  clear hb hv hu hd hnn hcap
  go_wp2_with fail
  refine (ider_any _ _ l k w1 HV1.out HU1.out (by have := HL.out.1; omega) HL.out.2.1 HL.out.2.2).mono ?_
  rintro e w2 ⟨ov, rfl, hb, ho, hn⟩
  have HB2 := Lib.hid (HB1.out.trans (hb.mono HB1.out.size))
  have HV2 := Lib.hid (HV1.out.below hb)
  have HU2 := Lib.hid (HU1.out.below hb)
  have HO2 := Lib.hid ho.ints
  have HON := Lib.hid ho.nn
  have HDM : Hid (DsOk l k (dl l k)) := Lib.hid (DsOk.mk' l k)
  have SD := Lib.hid (fun W hW hU => sder_any (.slice va l.length vc) (.slice ua k.length uc) l k W hW hU (by have := HL.out.1; omega) HL.out.2.1 HL.out.2.2)
  obtain ⟨oa, oc, rfl⟩ := ho.shape
  obtain ⟨ds, hds⟩ : ∃ ds, dl l k = ds := ⟨_, rfl⟩
  have HDS := Lib.hid hds
  rw [hds] at HO2 HDM SD HON
  rw [hds]
  clear hb ho hn hds HV1 HU1
  go_wp2_with fail
  refine (SD.out w2 HV2.out HU2.out).mono ?_
  rintro e w3 ⟨sv, rfl, hb, hs⟩
  have HB3 := Lib.hid (HB2.out.trans (hb.mono HB2.out.size))
  have HV3 := Lib.hid (HV2.out.below hb)
  have HU3 := Lib.hid (HU2.out.below hb)
  have HO3 := Lib.hid (HO2.out.below hb)
  have HS3 := Lib.hid hs.ints
  obtain ⟨sa, sc, rfl⟩ := hs.shape
  clear hb hs HV2 HU2 HO2 SD
  have hdl20 : ds.length ≤ 20 := HDM.out.len
  have HSS : Hid ((ds == ds) = true) := Lib.hid (beq_self_eq_true ds)
  go_wp2_with fail
  refine (same_any _ _ ds ds w3 HO3.out HS3.out (by omega) (by omega)).mono ?_
  rw [HSS.out]
  rintro e w4 ⟨rfl, hb⟩
  have HB4 := Lib.hid (HB3.out.trans (hb.mono HB3.out.size))
  have HV4 := Lib.hid (HV3.out.below hb)
  have HU4 := Lib.hid (HU3.out.below hb)
  have HO4 := Lib.hid (HO3.out.below hb)
  have HS4 := Lib.hid (HS3.out.below hb)
  clear hb HV3 HU3 HO3 HS3
  have hll9 : l.length ≤ 9 := HDL.out.len
  by_cases h0 : l.length = 0
  · have hb0 : ((l.length : Int) == 0) = true := by rw [beq_iff_eq]; omega
    clear h0
    go_wp2_with fail
    refine (same_any _ _ ds ds w4 HO4.out HS4.out (by omega) (by omega)).mono ?_
    rw [HSS.out]
    rintro e w5 ⟨rfl, hb⟩
    have HB5 := Lib.hid (HB4.out.trans (hb.mono HB4.out.size))
    clear hb
    go_wp2_with fail
    go_ret
    exact ⟨rfl, HB5.out⟩
  have hb0 : ((l.length : Int) == 0) = false := by rw [beq_eq_false_iff_ne]; omega
  have h0i : ¬ (l.length : Int) = 0 := by omega
  obtain ⟨i, hi⟩ : ∃ i : Nat, len2 % l.length = i := ⟨_, rfl⟩
  have hil : i < l.length := by rw [← hi]; exact Nat.mod_lt _ (by omega)
  have hki : Int.tmod (len2 : Int) (l.length : Int) = (i : Int) := by rw [← hi]; rfl
  have hki2 : (len2 : Int) % (l.length : Int) = (i : Int) := by rw [← hi]; simp
  clear hi
  have hlne : l ≠ [] := by rintro rfl; simp at h0
  go_wp2_with fail
  obtain ⟨g, o, rows, rfl, hrl, hcc, hrr⟩ := Bxs.rows HV4.out hlne
  have HCC := Lib.hid hcc
  have HRL := Lib.hid hrl
  have HRR := Lib.hid hrr
  have HLR : Hid (rows.length = l.length) := Lib.hid (by rw [← hrl]; simp)
  have hcap := HCAP.out
  have hlr := HLR.out
  clear hcc hrl hrr hlne
  have q0 : (0 : Int) ≤ (i : Int) := by omega
  have q1 : (i : Int) ≤ (vc : Int) := by omega
  have q2 : (i : Int) + 1 ≤ (l.length : Int) := by omega
  have q3 : (l.length : Int) ≤ (vc : Int) := by omega
  have q4 : (0 : Int) ≤ (i : Int) + 1 := by omega
  have q6 : (i : Int) + 1 ≤ (vc : Int) := by omega
  have q7 : (i : Int) ≤ (l.length : Int) := by omega
  have q5 : IntKind.i64.wrap ((i : Int) + 1) = (i : Int) + 1 := IntWalk.i64_in _ (by omega)
  have l1 : (rows.take i).length = i := by rw [List.length_take]; omega
  have l2 : (rows.drop (i + 1)).length = l.length - (i + 1) := by rw [List.length_drop]; omega
  have L1 := Lib.hid l1
  have L2 := Lib.hid l2
  clear l1 l2 hlr
  have CA := Lib.hid (((Below.refl w4.heap.size w4).alloc (Nat.le_refl _) (.cells #[] 31)).drew)
  have OA := Lib.hid (show OwnB (w4.alloc (.cells #[] 31)).drew w4.heap.size (.slice (some ⟨w4.heap.size, 0, none⟩) 0 0) [] from World.ownsRow.drew (own_new 31 2 w4.heap.size w4 (Nat.le_refl _)))
  have A1 : Hid (([] : List BxR).length + (rows.take i).length ≤ 8388608) := Lib.hid (by rw [L1.out, List.length_nil]; omega)
  have A2 : Hid (([] ++ rows.take i).length + (rows.drop (i + 1)).length ≤ 8388608) := Lib.hid (by rw [L2.out, List.length_append, L1.out, List.length_nil]; omega)
  have A3 : Hid (i + 1 ≤ rows.length) := Lib.hid (by have := HLR.out; omega)
  have A4 : Hid (rows.length ≤ vc) := Lib.hid (by have := HLR.out; omega)
  have hmem : ∀ r ∈ [] ++ rows.take i ++ rows.drop (i + 1), r ∈ rows := fun r hr => by
    rw [List.nil_append, List.mem_append] at hr
    exact hr.elim List.mem_of_mem_take List.mem_of_mem_drop
  have hlen2 : ([] ++ rows.take i ++ rows.drop (i + 1)).length ≤ 1048576 := by rw [List.length_append, List.length_append, L1.out, L2.out, List.length_nil]; omega
  have hml : ∀ b ∈ ([] ++ rows.take i ++ rows.drop (i + 1)).map Prod.fst, b ∈ l := fun b hb => by
    obtain ⟨r, hr, rfl⟩ := List.mem_map.1 hb
    rw [← HRL.out]
    exact List.mem_map.2 ⟨r, hmem r hr, rfl⟩
  have hlen3 : (([] ++ rows.take i ++ rows.drop (i + 1)).map Prod.fst).length ≤ 1048576 := by rw [List.length_map]; exact hlen2
  have HSUB : Hid (bsok l = true → ∀ x ∈ dl (([] ++ rows.take i ++ rows.drop (i + 1)).map Prod.fst) k, x ∈ ds) := Lib.hid fun hv x hx => dl_fewer HDM.out hml hv hx
  have hll := dl_len (([] ++ rows.take i ++ rows.drop (i + 1)).map Prod.fst) k
  have ID : Hid (∀ W v, Below w4.heap.size w4 W → OwnB W w4.heap.size v ([] ++ rows.take i ++ rows.drop (i + 1)) → Calls Try.prog 16 #[v, .slice ua k.length uc] W (IDerPost W (dl (([] ++ rows.take i ++ rows.drop (i + 1)).map Prod.fst) k))) := Lib.hid fun W v hW hv => ider_any _ (.slice ua k.length uc) _ k W (hv.bxs fun r hr => (HRR.out r (hmem r hr)).below hW) (HU4.out.below hW) hlen3 (fun b hb => HL.out.2.1 b (hml b hb)) HL.out.2.2
  clear hlen3 hlen2 hmem hml
  generalize dl (([] ++ rows.take i ++ rows.drop (i + 1)).map Prod.fst) k = xs at *
  go_region_held3 (fun _ => True) (first | trivial | go_keep)
    (first
      | (refine step_append_bx _ (by rfl) _ _ (by rfl) w4.heap.size (.slice (some ⟨w4.heap.size, 0, none⟩) 0 0) [] (rows.take i) (by rfl) OA.out _ i vc (by rfl) L1.out (srcB_take HCC.out CA.out i) A1.out CA.out.size ?_; intro aa1 nn1 cc1 wa1 hown1 hgrow1)
      | (refine step_append_bx _ (by rfl) _ _ (by rfl) w4.heap.size _ ([] ++ rows.take i) (rows.drop (i + 1)) (by rfl) hown1 _ (l.length - (i + 1)) (vc - (i + 1)) (by rfl) L2.out (srcB_drop HCC.out (grownB_kept CA.out OA.out hgrow1) (i + 1) vc A3.out A4.out) A2.out (grownB_kept CA.out OA.out hgrow1).size ?_; intro aa2 nn2 cc2 wa2 hown2 hgrow2; generalize (if vc = i + 1 then some (⟨g, o, none⟩ : Addr) else some ⟨g, o + (i + 1) * 2, none⟩) = zz1)
      | (go_at_call 16; refine (ID.out _ _ (grownB_kept (grownB_kept CA.out OA.out hgrow1) hown1 hgrow2) hown2).mono ?_; rintro e w5 ⟨lv, rfl, hb, ho, _⟩; obtain ⟨la, lc, rfl⟩ := ho.shape))
  have D2 := Lib.hid (grownB_kept (grownB_kept CA.out OA.out hgrow1) hown1 hgrow2)
  have HB5 := Lib.hid (D2.out.trans (hb.mono D2.out.size))
  have HX5 := Lib.hid ho.ints
  have HV6 := Lib.hid (HV4.out.below HB5.out)
  have HO6 := Lib.hid (HO4.out.below HB5.out)
  clear hown1 hgrow1 hown2 hgrow2 CA OA hb ho ID
  have B5 : Hid (Below w5.heap.size w5 w5) := Lib.hid (Below.refl _ _)
  go_wp2_with fail
  go_loopw [11] (fun iv wr => ∃ j : Nat, j ≤ xs.length ∧ iv = .int .i64 (j : Int) ∧ Hid (Below w5.heap.size w5 wr)) (fun iv _ => xs.length - (intOf iv).toNat)
  case atStart => exact ⟨0, Nat.zero_le _, rfl, B5⟩
  case round =>
    clear B5
    obtain ⟨j, hj, rfl, HB⟩ := hrel
    by_cases hlt : j < xs.length
    · have hlt' : (j : Int) < (xs.length : Int) := by omega
      obtain ⟨g3, o3, rfl, e1, hx⟩ := cell_at (HX5.out.below HB.out) hlt
      have HX := Lib.hid hx
      generalize xs.getD j 0 = x at *
      clear hx
      go_wp2_with fail
      refine (lhas_any _ ds x wr (HO6.out.below HB.out) (by omega)).mono ?_
      rintro e w7 ⟨rfl, hb⟩
      have HB7 := Lib.hid (HB.out.trans (hb.mono HB.out.size))
      clear hb e1
      cases hq : decide (x ∈ ds) with
      | true =>
        clear hq
        go_wp2_with fail
        go_roundw
        case rel => exact ⟨j + 1, by omega, by go_num, HB7⟩
        case measure => simp [intOf]; omega
      | false =>
        have HQ := Lib.hid hq
        have HNV : Hid (bsok l = false) := Lib.hid (by
          cases hbv : bsok l with
          | false => rfl
          | true => have := decide_eq_true (HSUB.out hbv x HX.out); rw [HQ.out] at this; exact absurd this (by simp))
        clear hq
        go_wp2_with fail
        refine (SV.out _ (HV6.out.below HB7.out)).mono ?_
        rw [HNV.out]
        rintro e w8 ⟨rfl, hb⟩
        have HB8 := Lib.hid (HB7.out.trans (hb.mono HB7.out.size))
        clear hb
        go_wp2_with fail
        go_roundw
        case rel => exact ⟨j + 1, by omega, by go_num, HB8⟩
        case measure => simp [intOf]; omega
    · have hlt' : ¬ (j : Int) < (xs.length : Int) := by omega
      go_wp2_with fail
      go_ret
      exact ⟨rfl, HB4.out.trans ((HB5.out.trans (HB.out.mono HB5.out.size)).mono HB4.out.size)⟩

end Go.Proofs.Ytakfohcnclmkbaa
