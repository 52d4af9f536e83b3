/- The law FnDeriveOrder: the walk. -/
import Derived.Test.YtakfohcnclmkbaaLawD
namespace Go.Proofs.Ytakfohcnclmkbaa
open Go.RowKit
set_option linter.unusedVariables false
set_option linter.unusedSimpArgs false

theorem dl_congr {l l' : List Bx} {k k' : List Int} (hb : bsok l = bsok l') (hk : kok k = kok k') (h : ∀ b, b ∈ l ↔ b ∈ l') (h' : ∀ a, a ∈ k ↔ a ∈ k') : dl l k = dl l' k' := by
  refine lt_sorted_ext (dl_sorted _ _) (dl_sorted _ _) fun x => ?_
  rw [mem_dl, mem_dl]
  unfold Ders
  rw [hb, hk]
  exact ⟨fun hd => ⟨hd.1, Der.mono (fun b hb => (h b).1 hb) (fun a ha => (h' a).1 ha) hd.2⟩, fun hd => ⟨hd.1, Der.mono (fun b hb => (h b).2 hb) (fun a ha => (h' a).2 ha) hd.2⟩⟩
theorem bsok_reverse (l : List Bx) : bsok l.reverse = bsok l := by unfold bsok; rw [List.length_reverse, List.all_reverse]
theorem dl_reverse (l : List Bx) (k : List Int) : dl l.reverse k = dl l k := dl_congr (bsok_reverse l) rfl (fun b => List.mem_reverse) (fun a => Iff.rfl)
theorem rev_take {l : List Bx} {j : Nat} (h : j < l.length) : l.reverse.take (j + 1) = l.reverse.take j ++ [l.getD (l.length - 1 - j) bxD] := by
  rw [List.take_succ_eq_append_getElem (by simpa using h), List.getElem_reverse, List.getD_eq_getElem?_getD, List.getElem?_eq_getElem (by omega)]
  rfl

set_option maxRecDepth 100000 in
set_option maxHeartbeats 1000000 in
theorem deriveorder_walk (a : Option Addr) (len cap : Nat) (zs : List Int) (w : World) (h : IsRow .u8 w a len cap zs) :
    Calls Try.prog 8 #[.slice a len cap] w fun e w' => e = .returned (.bool true) ∧ Below w.heap.size w w' := by
  have H := Lib.hid h
  clear h
  by_cases hl : 1048576 < len
  · have hl' : (1048576 : Int) < (len : Int) := by omega
    go_enter Try.func8, Try.ntmps8
    go_wp2
    go_ret
    exact ⟨rfl, Below.refl _ _⟩
  have hl' : ¬ (1048576 : Int) < (len : Int) := by omega
  go_enter Try.func8, Try.ntmps8
  go_wp2_with fail
  refine (drawDe_any a len cap zs w H.out).mono ?_
  rintro e w1 ⟨v, u, l, k, rfl, hb, hv, hu, hd, hnn⟩
  have HB1 := Lib.hid hb
  have HDL := Lib.hid hd
  have HV1 := Lib.hid hv
  have HU1 := Lib.hid hu
  have HL := Lib.hid hd.lens
  have SV : Hid (∀ W, Bxs W v l → Calls Try.prog 20 #[v] W fun e w' => e = .returned (.bool (bsok l)) ∧ Below W.heap.size W w') := Lib.hid fun W hW => sboxes_any v l W hW (by have := HL.out.1; omega) HL.out.2.1
  obtain ⟨va, vc, rfl⟩ := hv.shape
  obtain ⟨ua, uc, rfl⟩ := hu.shape
  have HNN : Hid ((Value.slice ua k.length uc).ownBlock ≠ none ∨ Value.slice ua k.length uc = .slice none 0 0) := Lib.hid (.inl hnn)
  clear hb hv hu hd hnn
  go_wp2_with fail
  refine (ider_any _ _ l k w1 HV1.out HU1.out (by have := HL.out.1; omega) HL.out.2.1 HL.out.2.2).mono ?_
  rintro e w2 ⟨ov, rfl, hb, ho, hn⟩
  have HB2 := Lib.hid (HB1.out.trans (hb.mono HB1.out.size))
  have HV2 := Lib.hid (HV1.out.below hb)
  have HU2 := Lib.hid (HU1.out.below hb)
  have HO2 := Lib.hid ho.ints
  have HON := Lib.hid ho.nn
  have HDM : Hid (DsOk l k (dl l k)) := Lib.hid (DsOk.mk' l k)
  have SD := Lib.hid (fun W hW hU => sder_any (.slice va l.length vc) (.slice ua k.length uc) l k W hW hU (by have := HL.out.1; omega) HL.out.2.1 HL.out.2.2)
  obtain ⟨oa, oc, rfl⟩ := ho.shape
  obtain ⟨ds, hds⟩ : ∃ ds, dl l k = ds := ⟨_, rfl⟩
  have HDS := Lib.hid hds
  rw [hds] at HO2 HDM SD HON
  rw [hds]
  clear hb ho hn hds HV1 HU1
  go_wp2_with fail
  refine (SD.out w2 HV2.out HU2.out).mono ?_
  rintro e w3 ⟨sv, rfl, hb, hs⟩
  have HB3 := Lib.hid (HB2.out.trans (hb.mono HB2.out.size))
  have HV3 := Lib.hid (HV2.out.below hb)
  have HU3 := Lib.hid (HU2.out.below hb)
  have HO3 := Lib.hid (HO2.out.below hb)
  have HS3 := Lib.hid hs.ints
  obtain ⟨sa, sc, rfl⟩ := hs.shape
  clear hb hs HV2 HU2 HO2 SD
  have hdl20 : ds.length ≤ 20 := HDM.out.len
  have HSS : Hid ((ds == ds) = true) := Lib.hid (beq_self_eq_true ds)
  go_wp2_with fail
  refine (same_any _ _ ds ds w3 HO3.out HS3.out (by omega) (by omega)).mono ?_
  rw [HSS.out]
  rintro e w4 ⟨rfl, hb⟩
  have HB4 := Lib.hid (HB3.out.trans (hb.mono HB3.out.size))
  have HV4 := Lib.hid (HV3.out.below hb)
  have HU4 := Lib.hid (HU3.out.below hb)
  have HO4 := Lib.hid (HO3.out.below hb)
  have HS4 := Lib.hid (HS3.out.below hb)
  clear hb HV3 HU3 HO3 HS3
  have B4 : Hid (Below w4.heap.size w4 (w4.alloc (.cells #[] 31))) := Lib.hid ((Below.refl _ _).alloc (Nat.le_refl _) _)
  have HLL : l.length ≤ 900000 := HL.out.1
  have HO0 := Lib.hid (OwnB.new w4.heap.size w4 (Nat.le_refl _))
  have hw0 : IntKind.i64.wrap ((l.length : Int) - 1) = (l.length : Int) - 1 := IntWalk.i64_in _ (by omega)
  go_wp2_with fail
  go_loopw [7, 8] (fun bv iv wr => ∃ (j : Nat) (rows : List BxR), j ≤ l.length ∧ rows.length = j ∧ iv = .int .i64 ((l.length : Int) - 1 - (j : Int)) ∧ Hid (Below w4.heap.size w4 wr) ∧ Hid (OwnB wr w4.heap.size bv rows) ∧ Hid (rows.map Prod.fst = l.reverse.take j) ∧ Hid (∀ r ∈ rows, Ints w4 (bsl r) r.1.2)) (fun _ iv _ => (intOf iv + 1).toNat)
  case atStart => exact ⟨0, [], Nat.zero_le _, rfl, by simp, B4, HO0, Lib.hid rfl, Lib.hid (by simp)⟩
  case round =>
    clear B4 HO0
    obtain ⟨j, rows, hj, hrl, hiv, HB, HO, HE, HR⟩ := hrel
    obtain ⟨ba, bc, rfl⟩ := HO.out.shape
    have HRL := Lib.hid hrl
    have hrl1 : rows.length < 1000000 := by omega
    clear hrl
    by_cases hlt : j < l.length
    · obtain ⟨i, hii⟩ : ∃ i, l.length - 1 - j = i := ⟨_, rfl⟩
      have hil : i < l.length := by omega
      have hil' : (i : Int) < (l.length : Int) := by omega
      have hi0 : (i : Int) ≥ 0 := by omega
      have hi1 : (0 : Int) ≤ (i : Int) := by omega
      have hw1 : IntKind.i64.wrap ((i : Int) - 1) = (i : Int) - 1 := IntWalk.i64_in _ (by omega)
      have hij : (i : Int) - 1 = (l.length : Int) - 1 - ((j + 1 : Nat) : Int) := by omega
      have HIJ := Lib.hid hij
      clear hij
      rw [show (l.length : Int) - 1 - (j : Int) = (i : Int) by omega] at hiv
      subst hiv
      obtain ⟨g, o, ra, rc, rfl, ⟨c0, c1, hin⟩, hmem⟩ := box_at (HV4.out.below HB.out) hil
      have HT := Lib.hid (rev_take hlt)
      rw [hii] at HT
      clear hii
      have HIN0 : Hid (Ints w4 (.slice ra (l.getD i bxD).2.length rc) (l.getD i bxD).2) := by
        obtain ⟨g', o', ra', rc', he, ⟨d0, d1, hin'⟩, _⟩ := box_at HV4.out hil
        injection he with he; injection he with he1 he2; subst he1; subst he2
        have := (HB.out.cell (World.block_lt_of_cell? _ _ d1)).trans d1
        rw [this] at c1
        injection c1 with c1; injection c1 with q1 _ q3
        subst q1; subst q3
        exact Lib.hid hin'
      generalize hb : l.getD i bxD = b at *
      clear hb
      obtain ⟨key, ins⟩ := b
      simp only at c0 c1 HIN0
      clear hin hmem
      go_wp2_with (at_builtin; refine wpList_app_box _ rfl _ _ rfl w4.heap.size _ rows rfl HO.out ((key, ins), ra, rc) _ _ rfl (by simp) ?c1 ?c2 ?_)
      case c1 => omega
      case c2 => exact HB.out.size
      intro v' w6 ho hgr hbk
      have HB6 := Lib.hid (OwnB.grown_below HB.out HO.out HB.out.size hgr)
      have HO6 := Lib.hid ho
      clear ho hgr hbk
      go_wp2_with fail
      go_roundw
      case rel =>
        refine ⟨j + 1, rows ++ [((key, ins), ra, rc)], by omega, by rw [List.length_append, HRL.out]; rfl, by rw [← HIJ.out], HB6, HO6, Lib.hid (by rw [HT.out, List.map_append, HE.out]; rfl), Lib.hid fun r hr => ?_⟩
        rcases List.mem_append.1 hr with hr | hr
        · exact HR.out r hr
        · rw [List.mem_singleton.1 hr]; exact HIN0.out
      case measure => simp [intOf] <;> omega
    · subst hiv
      have hlt' : ¬ (l.length : Int) - 1 - (j : Int) ≥ 0 := by omega
      have hlt2' : ¬ (0 : Int) ≤ (l.length : Int) - 1 - (j : Int) := by omega
      have hE := HE.out
      rw [List.take_of_length_le (by simp; omega)] at hE
      have HX : Hid (Bxs wr (.slice ba rows.length bc) l.reverse) := Lib.hid (by rw [← hE]; exact HO.out.bxs fun r hr => (HR.out r hr).below HB.out)
      have HDR : Hid (dl l.reverse k = ds) := Lib.hid (by rw [dl_reverse]; exact HDS.out)
      clear hE
      go_wp2_with fail
      refine (ider_any _ _ l.reverse k wr HX.out (HU4.out.below HB.out) (by simp; omega) (fun b hb => HL.out.2.1 b (List.mem_reverse.1 hb)) HL.out.2.2).mono ?_
      rw [HDR.out]
      rintro e w7 ⟨v7, rfl, hb, ho, _⟩
      obtain ⟨a7, c7, rfl⟩ := ho.shape
      have HB7 := Lib.hid (HB.out.trans (hb.mono HB.out.size))
      have HX7 := Lib.hid ho.ints
      clear hb ho
      go_wp2_with fail
      refine (same_any _ _ ds ds w7 HX7.out (HO4.out.below HB7.out) (by omega) (by omega)).mono ?_
      rw [HSS.out]
      rintro e w8 ⟨rfl, hb⟩
      have HB8 := Lib.hid (HB7.out.trans (hb.mono HB7.out.size))
      clear hb
      go_wp2_with fail
      go_ret
      exact ⟨rfl, HB4.out.trans (HB8.out.mono HB4.out.size)⟩

end Go.Proofs.Ytakfohcnclmkbaa
