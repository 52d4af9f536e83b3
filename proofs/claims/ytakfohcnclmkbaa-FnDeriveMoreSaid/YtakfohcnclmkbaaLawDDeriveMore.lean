/- The law FnDeriveMore: the walk. -/
import Derived.Test.YtakfohcnclmkbaaLawD
namespace Go.Proofs.Ytakfohcnclmkbaa
open Go.RowKit
set_option linter.unusedVariables false
set_option linter.unusedSimpArgs false

theorem kok_more {k : List Int} {x : Int} (h : kok k = true) (hl : k.length < 20) (hx : aok x = true) : kok (k ++ [x]) = true := by
  obtain ⟨h1, h2⟩ := kok_iff.1 h
  refine kok_iff.2 ⟨by simp; omega, fun a ha => ?_⟩
  rcases List.mem_append.1 ha with ha | ha
  · exact h2 a ha
  · rw [List.mem_singleton.1 ha]; exact hx
theorem more_dl {l : List Bx} {k ds : List Int} (h : DsOk l k ds) {x : Int} (hl : k.length < 20) (hx : aok x = true) {y : Int} (hy : y ∈ ds) : y ∈ dl l (k ++ [x]) := by
  have hd := (h.mem y).1 hy
  exact mem_dl.2 ⟨⟨hd.1.1, kok_more hd.1.2 hl hx⟩, Der.mono (fun b hb => hb) (fun a ha => List.mem_append_left _ ha) hd.2⟩

set_option maxRecDepth 100000 in
set_option maxHeartbeats 1000000 in
theorem derivemore_walk (a : Option Addr) (len cap : Nat) (zs : List Int) (a2 : Option Addr) (len2 cap2 : Nat) (zs2 : List Int) (w : World) (h : IsRow .u8 w a len cap zs) (h2 : IsRow .u8 w a2 len2 cap2 zs2) :
    Calls Try.prog 5 #[.slice a len cap, .slice a2 len2 cap2] w fun e w' => e = .returned (.bool true) ∧ Below w.heap.size w w' := by
  have H := Lib.hid h
  have H2 := Lib.hid h2
  clear h2
  clear h
  by_cases hl : 1048576 < len
  · have hl' : (1048576 : Int) < (len : Int) := by omega
    go_enter Try.func5, Try.ntmps5
    go_wp2
    go_ret
    exact ⟨rfl, Below.refl _ _⟩
  have hl' : ¬ (1048576 : Int) < (len : Int) := by omega
  by_cases hl2 : 1048576 < len2
  · have hl2' : (1048576 : Int) < (len2 : Int) := by omega
    go_enter Try.func5, Try.ntmps5
    go_wp2
    go_ret
    exact ⟨rfl, Below.refl _ _⟩
  have hl2' : ¬ (1048576 : Int) < (len2 : Int) := by omega
  go_enter Try.func5, Try.ntmps5
  go_wp2_with fail
  refine (drawDe_any a len cap zs w H.out).mono ?_
  rintro e w1 ⟨v, u, l, k, rfl, hb, hv, hu, hd, hnn⟩
  have HB1 := Lib.hid hb
  have HDL := Lib.hid hd
  have HV1 := Lib.hid hv
  have HU1 := Lib.hid hu
  have HL := Lib.hid hd.lens
  have SV : Hid (∀ W, Bxs W v l → Calls Try.prog 20 #[v] W fun e w' => e = .returned (.bool (bsok l)) ∧ Below W.heap.size W w') := Lib.hid fun W hW => sboxes_any v l W hW (by have := HL.out.1; omega) HL.out.2.1
  obtain ⟨va, vc, rfl⟩ := hv.shape
  obtain ⟨ua, uc, rfl⟩ := hu.shape
  have HNN : Hid ((Value.slice ua k.length uc).ownBlock ≠ none ∨ Value.slice ua k.length uc = .slice none 0 0) := Lib.hid (.inl hnn)
  clear hb hv hu hd hnn
  go_wp2_with fail
  refine (ider_any _ _ l k w1 HV1.out HU1.out (by have := HL.out.1; omega) HL.out.2.1 HL.out.2.2).mono ?_
  rintro e w2 ⟨ov, rfl, hb, ho, hn⟩
  have HB2 := Lib.hid (HB1.out.trans (hb.mono HB1.out.size))
  have HV2 := Lib.hid (HV1.out.below hb)
  have HU2 := Lib.hid (HU1.out.below hb)
  have HO2 := Lib.hid ho.ints
  have HON := Lib.hid ho.nn
  have HDM : Hid (DsOk l k (dl l k)) := Lib.hid (DsOk.mk' l k)
  have SD := Lib.hid (fun W hW hU => sder_any (.slice va l.length vc) (.slice ua k.length uc) l k W hW hU (by have := HL.out.1; omega) HL.out.2.1 HL.out.2.2)
  obtain ⟨oa, oc, rfl⟩ := ho.shape
  obtain ⟨ds, hds⟩ : ∃ ds, dl l k = ds := ⟨_, rfl⟩
  have HDS := Lib.hid hds
  rw [hds] at HO2 HDM SD HON
  rw [hds]
  clear hb ho hn hds HV1 HU1
  go_wp2_with fail
  refine (SD.out w2 HV2.out HU2.out).mono ?_
  rintro e w3 ⟨sv, rfl, hb, hs⟩
  have HB3 := Lib.hid (HB2.out.trans (hb.mono HB2.out.size))
  have HV3 := Lib.hid (HV2.out.below hb)
  have HU3 := Lib.hid (HU2.out.below hb)
  have HO3 := Lib.hid (HO2.out.below hb)
  have HS3 := Lib.hid hs.ints
  obtain ⟨sa, sc, rfl⟩ := hs.shape
  clear hb hs HV2 HU2 HO2 SD
  have hdl20 : ds.length ≤ 20 := HDM.out.len
  have HSS : Hid ((ds == ds) = true) := Lib.hid (beq_self_eq_true ds)
  go_wp2_with fail
  refine (same_any _ _ ds ds w3 HO3.out HS3.out (by omega) (by omega)).mono ?_
  rw [HSS.out]
  rintro e w4 ⟨rfl, hb⟩
  have HB4 := Lib.hid (HB3.out.trans (hb.mono HB3.out.size))
  have HV4 := Lib.hid (HV3.out.below hb)
  have HU4 := Lib.hid (HU3.out.below hb)
  have HO4 := Lib.hid (HO3.out.below hb)
  have HS4 := Lib.hid (HS3.out.below hb)
  clear hb HV3 HU3 HO3 HS3
  have hkl3 : k.length ≤ 3 := HDL.out.klen
  have hll9 : l.length ≤ 9 := HDL.out.len
  cases hq : bsok l with
  | false =>
    have HQ := Lib.hid hq
    clear hq
    go_wp2_with fail
    refine (SV.out _ HV4.out).mono ?_
    rw [HQ.out]
    rintro e w5 ⟨rfl, hb⟩
    have HB5 := Lib.hid (HB4.out.trans (hb.mono HB4.out.size))
    have HO5 := Lib.hid (HO4.out.below hb)
    have HS5 := Lib.hid (HS4.out.below hb)
    clear hb
    go_wp2_with fail
    refine (same_any _ _ ds ds w5 HO5.out HS5.out (by omega) (by omega)).mono ?_
    rw [HSS.out]
    rintro e w6 ⟨rfl, hb⟩
    have HB6 := Lib.hid (HB5.out.trans (hb.mono HB5.out.size))
    clear hb
    go_wp2_with fail
    go_ret
    exact ⟨rfl, HB6.out⟩
  | true =>
  have HQ := Lib.hid hq
  clear hq
  go_wp2_with fail
  refine (SV.out _ HV4.out).mono ?_
  rw [HQ.out]
  rintro e w5 ⟨rfl, hb⟩
  have HB5 := Lib.hid (HB4.out.trans (hb.mono HB4.out.size))
  have HV5 := Lib.hid (HV4.out.below hb)
  have HU5 := Lib.hid (HU4.out.below hb)
  have HO5 := Lib.hid (HO4.out.below hb)
  clear hb
  have hk20 : ¬ (k.length : Int) ≥ 20 := by omega
  have hk20' : ¬ (20 : Int) ≤ (k.length : Int) := by omega
  obtain ⟨x, hx⟩ : ∃ x : Nat, len2 % 9 = x := ⟨_, rfl⟩
  have hx9 : x < 9 := by omega
  have hmod : Int.tmod (len2 : Int) 9 = (x : Int) := by rw [← hx]; rfl
  have hw1 : IntKind.i64.wrap (1 + (x : Int)) = 1 + (x : Int) := IntWalk.i64_in _ (by omega)
  have hBA : Below w5.heap.size w5 (w5.alloc (.cells #[] 3)) := (Below.refl _ _).alloc (Nat.le_refl _) _
  have HBA := Lib.hid hBA
  have HOA := Lib.hid (OwnI.new w5.heap.size w5 (Nat.le_refl _))
  have HUA := Lib.hid (HU5.out.below hBA)
  have HAOK : Hid (aok (1 + (x : Int)) = true) := Lib.hid (aok_iff.2 (by omega))
  clear hBA hx
  go_wp2_with (at_builtin; refine wpList_app_ints _ rfl _ _ rfl w5.heap.size _ [] rfl HOA.out _ k rfl HUA.out HNN.out ?c1 ?c2 ?c3 ?_)
  case c1 => simp
  case c2 => omega
  case c3 => exact HBA.out.size
  intro v6 w6 ho hgr _
  have HB6 : Hid (Below w5.heap.size w5 w6) := Lib.hid (HBA.out.grown hgr HBA.out.size (fun j hj => by simp only [Value.ownBlock] at hj; injection hj with hj; omega))
  have HO6 : Hid (OwnI w6 w5.heap.size v6 k) := Lib.hid (by simpa using ho)
  obtain ⟨va6, vc6, rfl⟩ := HO6.out.shape
  clear ho hgr HUA HOA
  go_wp2_with (at_builtin; refine wpList_app_int _ rfl _ _ rfl w5.heap.size _ k rfl HO6.out _ _ _ rfl (by simp) ?c1 ?c2 ?_)
  case c1 => omega
  case c2 => exact HB6.out.size
  intro v7 w7 ho hgr _
  have HB7 := Lib.hid (OwnI.grown_below HB6.out HO6.out HB6.out.size hgr)
  have HO7 := Lib.hid ho.ints
  clear ho hgr
  have hk7 : (k ++ [1 + (x : Int)]).length ≤ 1048576 := by simp; omega
  have HMORE : Hid (∀ y ∈ ds, y ∈ dl l (k ++ [1 + (x : Int)])) := Lib.hid fun y hy => more_dl HDM.out (by omega) HAOK.out hy
  have ID := Lib.hid (ider_any (.slice va l.length vc) v7 l (k ++ [1 + (x : Int)]) w7 (HV5.out.below HB7.out) HO7.out (by omega) HL.out.2.1 hk7)
  have hal := dl_len l (k ++ [1 + (x : Int)])
  obtain ⟨va7, vc7, hv7⟩ := HO7.out.shape
  generalize dl l (k ++ [1 + (x : Int)]) = all at *
  clear hk7
  generalize k ++ [1 + (x : Int)] = k7 at *
  subst hv7
  go_wp2_with fail
  refine ID.out.mono ?_
  rintro e w8 ⟨v8, rfl, hb, ho, _⟩
  obtain ⟨va8, vc8, rfl⟩ := ho.shape
  have HB8 := Lib.hid (HB7.out.trans (hb.mono HB7.out.size))
  have HA8 := Lib.hid ho.ints
  clear hb ho
  have B8 : Hid (Below w8.heap.size w8 w8) := Lib.hid (Below.refl _ _)
  go_wp2_with fail
  go_loopw [10] (fun iv wr => ∃ i : Nat, i ≤ ds.length ∧ iv = .int .i64 (i : Int) ∧ Hid (Below w8.heap.size w8 wr)) (fun iv _ => ds.length - (intOf iv).toNat)
  case atStart => exact ⟨0, Nat.zero_le _, rfl, B8⟩
  case round =>
    clear B8
    obtain ⟨i, hi, rfl, HB⟩ := hrel
    by_cases hil : i < ds.length
    · have hil' : (i : Int) < (ds.length : Int) := by omega
      obtain ⟨g, o, rfl, e1, hx⟩ := cell_at ((HO5.out.below HB8.out).below HB.out) hil
      generalize ds.getD i 0 = y at *
      have HX : Hid (decide (y ∈ all) = true) := Lib.hid (decide_eq_true (HMORE.out y hx))
      clear hx
      go_wp2_with fail
      refine (lhas_any _ all y wr (HA8.out.below HB.out) (by omega)).mono ?_
      rw [HX.out]
      rintro e w9 ⟨rfl, hb⟩
      have HB9 := Lib.hid (HB.out.trans (hb.mono HB.out.size))
      clear hb
      go_wp2_with fail
      go_roundw
      case rel => exact ⟨i + 1, by omega, by go_num, HB9⟩
      case measure => simp [intOf]; omega
    · have hil' : ¬ (i : Int) < (ds.length : Int) := by omega
      go_wp2_with fail
      go_ret
      exact ⟨rfl, HB5.out.trans ((HB8.out.trans (HB.out.mono HB8.out.size)).mono HB5.out.size)⟩

end Go.Proofs.Ytakfohcnclmkbaa
