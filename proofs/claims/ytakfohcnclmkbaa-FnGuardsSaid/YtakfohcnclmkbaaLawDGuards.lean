/- The law FnGuards: the walk. -/
import Derived.Test.YtakfohcnclmkbaaGdMath
import Derived.Deep.RegionHeld3
namespace Go.Proofs.Ytakfohcnclmkbaa
open Go.RowKit
set_option linter.unusedVariables false
set_option linter.unusedSimpArgs false


set_option maxRecDepth 100000 in
set_option maxHeartbeats 1000000 in
theorem guards_walk (a : Option Addr) (len cap : Nat) (zs : List Int) (w : World) (h : IsRow .u8 w a len cap zs) :
    Calls Try.prog 11 #[.slice a len cap] w fun e w' => e = .returned (.bool true) ∧ Below w.heap.size w w' := by
  have H := Lib.hid h
  clear h
  by_cases hl : 1048576 < len
  · have hl' : (1048576 : Int) < (len : Int) := by omega
    go_enter Try.func11, Try.ntmps11
    go_wp2
    go_ret
    exact ⟨rfl, Below.refl _ _⟩
  have hl' : ¬ (1048576 : Int) < (len : Int) := by omega
  go_enter Try.func11, Try.ntmps11
  go_wp2_with fail
  refine (drawGd_any a len cap zs w H.out).mono ?_
  rintro e w1 ⟨v, u, l, k, x, rfl, hb, hv, hu, hd, hx⟩
  have HB1 := Lib.hid hb
  have HV1 := Lib.hid hv
  have HU1 := Lib.hid hu
  have HL := Lib.hid hd.lens
  have hll9 : l.length ≤ 9 := hd.len
  have hkl3 : k.length ≤ 3 := hd.klen
  have HXK : Hid (i64ok x) := Lib.hid (i64ok_of hx.ok.1 hx.ok.2)
  have SV : Hid (∀ W, Bxs W v l → Calls Try.prog 20 #[v] W fun e w' => e = .returned (.bool (bsok l)) ∧ Below W.heap.size W w') := Lib.hid fun W hW => sboxes_any v l W hW (by omega) HL.out.2.1
  obtain ⟨va, vc, rfl⟩ := hv.shape
  obtain ⟨ua, uc, rfl⟩ := hu.shape
  clear hb hv hu hd hx
  have IO := Lib.hid (iguards_any (.slice va l.length vc) (.slice ua k.length uc) l k x w1 HV1.out HU1.out HL.out.1 HL.out.2.1 HL.out.2.2 HXK.out)
  have SO := Lib.hid (fun W hW hU => sguards_any (.slice va l.length vc) (.slice ua k.length uc) l k x W hW hU HL.out.1 HL.out.2.1 HL.out.2.2)
  have HGM : Hid (∀ g : Int, 1 ≤ g → g ≤ 20 → decide (g ∈ guardsL l k x) = (db l k x && !db (without l g) k x)) := Lib.hid fun g h1 h2 => guards_mem h1 h2
  have hol := guards_len l k x
  have HGK : Hid (∀ g ∈ guardsL l k x, db l k g = true) := Lib.hid fun g hg => guards_known hg
  have HGN : Hid (guardsL l k x ≠ [] → x ∉ k) := Lib.hid fun h => guards_not h
  generalize guardsL l k x = os at *
  go_wp2_with fail
  refine IO.out.mono ?_
  rintro e w2 ⟨ov, rfl, hb, ho⟩
  have HB2 := Lib.hid (HB1.out.trans (hb.mono HB1.out.size))
  have HV2 := Lib.hid (HV1.out.below hb)
  have HU2 := Lib.hid (HU1.out.below hb)
  have HO2 := Lib.hid ho.ints
  obtain ⟨oa, oc, rfl⟩ := ho.shape
  clear hb ho IO
  go_wp2_with fail
  refine (SO.out w2 HV2.out HU2.out).mono ?_
  rintro e w3 ⟨sv, rfl, hb, hs⟩
  have HB3 := Lib.hid (HB2.out.trans (hb.mono HB2.out.size))
  have HV3 := Lib.hid (HV2.out.below hb)
  have HU3 := Lib.hid (HU2.out.below hb)
  have HO3 := Lib.hid (HO2.out.below hb)
  have HS3 := Lib.hid hs.ints
  obtain ⟨sa, sc, rfl⟩ := hs.shape
  clear hb hs SO
  have HSS : Hid ((os == os) = true) := Lib.hid (beq_self_eq_true os)
  go_wp2_with fail
  refine (same_any _ _ os os w3 HO3.out HS3.out (by omega) (by omega)).mono ?_
  rw [HSS.out]
  rintro e w4 ⟨rfl, hb⟩
  have HB4 := Lib.hid (HB3.out.trans (hb.mono HB3.out.size))
  have HV4 := Lib.hid (HV3.out.below hb)
  have HU4 := Lib.hid (HU3.out.below hb)
  have HO4 := Lib.hid (HO3.out.below hb)
  have HS4 := Lib.hid (HS3.out.below hb)
  clear hb
  cases hq : bsok l with
  | false =>
    have HQ := Lib.hid hq
    clear hq
    go_wp2_with fail
    refine (SV.out _ HV4.out).mono ?_
    rw [HQ.out]
    rintro e w5 ⟨rfl, hb⟩
    have HB5 := Lib.hid (HB4.out.trans (hb.mono HB4.out.size))
    have HO5 := Lib.hid (HO4.out.below hb)
    have HS5 := Lib.hid (HS4.out.below hb)
    clear hb
    go_wp2_with fail
    refine (same_any _ _ os os w5 HO5.out HS5.out (by omega) (by omega)).mono ?_
    rw [HSS.out]
    rintro e w6 ⟨rfl, hb⟩
    have HB6 := Lib.hid (HB5.out.trans (hb.mono HB5.out.size))
    clear hb
    go_wp2_with fail
    go_ret
    exact ⟨rfl, HB6.out⟩
  | true =>
  have HQ := Lib.hid hq
  clear hq
  go_wp2_with fail
  refine (SV.out _ HV4.out).mono ?_
  rw [HQ.out]
  rintro e w5 ⟨rfl, hb⟩
  have HB5w0 : Hid (Below w4.heap.size w4 w5) := Lib.hid hb
  have HB5 := Lib.hid (HB4.out.trans (hb.mono HB4.out.size))
  have HV5 := Lib.hid (HV4.out.below hb)
  have HU5 := Lib.hid (HU4.out.below hb)
  have HO5 := Lib.hid (HO4.out.below hb)
  clear hb
  have B5 : Hid (Below w5.heap.size w5 w5) := Lib.hid (Below.refl _ _)
  clear HB1 HV1 HU1 HB2 HV2 HU2 HO2 HB3 HV3 HU3 HO3 HS3 HS4 HV4 HU4 HO4
  go_wp2_with fail
  go_loopw [8] (fun kv wr => ∃ m : Nat, m ≤ 20 ∧ kv = .int .i64 ((m : Int) + 1) ∧ Hid (Below w5.heap.size w5 wr)) (fun kv _ => 21 - (intOf kv).toNat)
  case atStart => exact ⟨0, Nat.zero_le _, rfl, B5⟩
  case round =>
    clear B5
    obtain ⟨m, hm, rfl, HB⟩ := hrel
    by_cases hlt : m < 20
    · have hlt' : (m : Int) + 1 ≤ 20 := by omega
      have HGM1 := Lib.hid (HGM.out ((m : Int) + 1) (by omega) (by omega))
      have hBA : Below wr.heap.size wr (wr.alloc (.cells #[] 31)) := (Below.refl _ _).alloc (Nat.le_refl _) _
      have HBA : Hid (Below w5.heap.size w5 (wr.alloc (.cells #[] 31))) := Lib.hid (HB.out.trans (hBA.mono HB.out.size))
      have HRA : Hid (OwnB (wr.alloc (.cells #[] 31)) w5.heap.size (.slice (some ⟨wr.heap.size, 0, none⟩) 0 0) []) := Lib.hid (OwnB.new w5.heap.size wr HB.out.size)
      clear hBA
      go_wp2_with fail
      go_loopw [9, 10] (fun bv iv wr => ∃ (j : Nat) (rows : List BxR), j ≤ l.length ∧ rows.length ≤ j ∧ iv = .int .i64 (j : Int) ∧ Hid (Below w5.heap.size w5 wr) ∧ Hid (OwnB wr w5.heap.size bv rows) ∧ Hid (rows.map Prod.fst = without (l.take j) ((m : Int) + 1)) ∧ Hid (∀ r ∈ rows, Ints w5 (bsl r) r.1.2)) (fun _ iv _ => l.length - (intOf iv).toNat)
      case atStart => exact ⟨0, [], Nat.zero_le _, Nat.le_refl _, rfl, HBA, HRA, Lib.hid rfl, Lib.hid (by simp)⟩
      case round =>
        clear HB HBA HRA
        obtain ⟨j, rows, hj, hrl, rfl, HB, HR, HE, HI⟩ := hrel
        obtain ⟨ba, bc, rfl⟩ := HR.out.shape
        by_cases hlj : j < l.length
        · have hlj' : (j : Int) < (l.length : Int) := by omega
          obtain ⟨g, o, ra, rc, rfl, ⟨e0, e1, hin⟩, hmem⟩ := box_at (HV5.out.below HB.out) hlj
          have HIN0 : Hid (Ints w5 (.slice ra (l.getD j bxD).2.length rc) (l.getD j bxD).2) := by
            obtain ⟨g', o', ra', rc', he, ⟨d0, d1, hin'⟩, _⟩ := box_at HV5.out hlj
            injection he with he; injection he with he1 he2; subst he1; subst he2
            have := (HB.out.cell (World.block_lt_of_cell? _ _ d1)).trans d1
            rw [this] at e1
            injection e1 with e1; injection e1 with q1 _ q3
            subst q1; subst q3
            exact Lib.hid hin'
          have HS := Lib.hid (without_succ (key := (m : Int) + 1) hlj)
          generalize hbq : l.getD j bxD = b at *
          clear hbq hin hmem
          obtain ⟨key, ins⟩ := b
          simp only at e0 e1 HIN0 HS
          by_cases hq : key = (m : Int) + 1
          · have hb : (key == (m : Int) + 1) = true := by rw [hq]; exact beq_self_eq_true _
            have hbn : (key != (m : Int) + 1) = false := by simp [hq]
            have HS2 := Lib.hid (HS.out.2 hq)
            clear hq HS
            go_wp2_with fail
            go_roundw
            case rel => exact ⟨j + 1, rows, by omega, by omega, by go_num, HB, HR, Lib.hid (by rw [HS2.out]; exact HE.out), HI⟩
            case measure => simp [intOf]; omega
          · have hb : (key == (m : Int) + 1) = false := by rw [beq_eq_false_iff_ne]; exact hq
            have hbn : (key != (m : Int) + 1) = true := by simp [hq]
            have HS2 := Lib.hid (HS.out.1 hq)
            clear hq HS
            go_wp2_with (at_builtin; refine wpList_app_box _ rfl _ _ rfl w5.heap.size _ rows rfl HR.out ((key, ins), ra, rc) _ _ rfl (by simp) ?c1 ?c2 ?_)
            case c1 => omega
            case c2 => exact HB.out.size
            intro v' w6 ho hgr hbk
            have HB6 := Lib.hid (OwnB.grown_below HB.out HR.out HB.out.size hgr)
            have HR6 := Lib.hid ho
            clear ho hgr hbk
            go_wp2_with fail
            go_roundw
            case rel =>
              refine ⟨j + 1, rows ++ [((key, ins), ra, rc)], by omega, by simp; omega, by go_num, HB6, HR6, Lib.hid (by rw [HS2.out, List.map_append, HE.out]; rfl), Lib.hid fun r hr => ?_⟩
              rcases List.mem_append.1 hr with hr | hr
              · exact HI.out r hr
              · rw [List.mem_singleton.1 hr]; exact HIN0.out
            case measure => simp [intOf]; omega
        · have hlj' : ¬ (j : Int) < (l.length : Int) := by omega
          have hE := HE.out
          rw [List.take_of_length_le (by omega)] at hE
          have HX : Hid (Bxs wr (.slice ba rows.length bc) (without l ((m : Int) + 1))) := Lib.hid (by rw [← hE]; exact HR.out.bxs fun r hr => (HI.out r hr).below HB.out)
          have HWL : Hid ((without l ((m : Int) + 1)).length ≤ l.length) := Lib.hid (without_le _ _)
          have HWM : Hid (∀ b ∈ without l ((m : Int) + 1), b ∈ l) := Lib.hid fun b hb => (mem_without.1 hb).1
          clear hE
          generalize without l ((m : Int) + 1) = wl at *
          have ID1 := Lib.hid (fun W hW hU => idble_any (.slice va l.length vc) (.slice ua k.length uc) l k x W hW hU (by omega) HL.out.2.1 (by omega) HXK.out)
          have ID2 := Lib.hid (fun W hW hU => idble_any (.slice ba rows.length bc) (.slice ua k.length uc) wl k x W hW hU (by have := HWL.out; omega) (fun b hb => HL.out.2.1 b (HWM.out b hb)) (by omega) HXK.out)
          generalize db l k x = q1 at *
          generalize db wl k x = q2 at *
          have LH := Lib.hid (lhas_any _ os ((m : Int) + 1) wr (HO5.out.below HB.out) (by omega))
          rw [HGM1.out] at LH
          cases q1 with
          | false =>
            have LH2 : Hid (Calls Try.prog 19 #[.slice oa os.length oc, .int .i64 ((m : Int) + 1)] wr fun e w' => e = .returned (.bool false) ∧ Below wr.heap.size wr w') := LH
            clear LH
            go_wp2_with fail
            refine LH2.out.mono ?_
            rintro e w6 ⟨rfl, hb⟩
            have HB6 := Lib.hid (HB.out.trans (hb.mono HB.out.size))
            clear hb LH2
            go_wp2_with fail
            refine (ID1.out w6 (HV5.out.below HB6.out) (HU5.out.below HB6.out)).mono ?_
            rintro e w7 ⟨rfl, hb⟩
            have HB7 := Lib.hid (HB6.out.trans (hb.mono HB6.out.size))
            clear hb
            go_wp2_with fail
            go_roundw
            case rel => exact ⟨m + 1, by omega, by go_num, HB7⟩
            case measure => simp [intOf]; omega
          | true =>
            cases q2 with
            | false =>
              have LH2 : Hid (Calls Try.prog 19 #[.slice oa os.length oc, .int .i64 ((m : Int) + 1)] wr fun e w' => e = .returned (.bool true) ∧ Below wr.heap.size wr w') := LH
              clear LH
              go_wp2_with fail
              refine LH2.out.mono ?_
              rintro e w6 ⟨rfl, hb⟩
              have HB6 := Lib.hid (HB.out.trans (hb.mono HB.out.size))
              have HX6 := Lib.hid (HX.out.below hb)
              clear hb LH2
              go_wp2_with fail
              refine (ID1.out w6 (HV5.out.below HB6.out) (HU5.out.below HB6.out)).mono ?_
              rintro e w7 ⟨rfl, hb⟩
              have HB7 := Lib.hid (HB6.out.trans (hb.mono HB6.out.size))
              have HX7 := Lib.hid (HX6.out.below hb)
              clear hb
              go_wp2_with fail
              refine (ID2.out w7 HX7.out (HU5.out.below HB7.out)).mono ?_
              rintro e w8 ⟨rfl, hb⟩
              have HB8 := Lib.hid (HB7.out.trans (hb.mono HB7.out.size))
              clear hb
              go_wp2_with fail
              go_roundw
              case rel => exact ⟨m + 1, by omega, by go_num, HB8⟩
              case measure => simp [intOf]; omega
            | true =>
              have LH2 : Hid (Calls Try.prog 19 #[.slice oa os.length oc, .int .i64 ((m : Int) + 1)] wr fun e w' => e = .returned (.bool false) ∧ Below wr.heap.size wr w') := LH
              clear LH
              go_wp2_with fail
              refine LH2.out.mono ?_
              rintro e w6 ⟨rfl, hb⟩
              have HB6 := Lib.hid (HB.out.trans (hb.mono HB.out.size))
              have HX6 := Lib.hid (HX.out.below hb)
              clear hb LH2
              go_wp2_with fail
              refine (ID1.out w6 (HV5.out.below HB6.out) (HU5.out.below HB6.out)).mono ?_
              rintro e w7 ⟨rfl, hb⟩
              have HB7 := Lib.hid (HB6.out.trans (hb.mono HB6.out.size))
              have HX7 := Lib.hid (HX6.out.below hb)
              clear hb
              go_wp2_with fail
              refine (ID2.out w7 HX7.out (HU5.out.below HB7.out)).mono ?_
              rintro e w8 ⟨rfl, hb⟩
              have HB8 := Lib.hid (HB7.out.trans (hb.mono HB7.out.size))
              clear hb
              go_wp2_with fail
              go_roundw
              case rel => exact ⟨m + 1, by omega, by go_num, HB8⟩
              case measure => simp [intOf]; omega
    · have hlt' : ¬ (m : Int) + 1 ≤ 20 := by omega
      go_wp2_with fail
      go_ret
      exact ⟨rfl, HB5.out.trans (HB.out.mono HB5.out.size)⟩

end Go.Proofs.Ytakfohcnclmkbaa
