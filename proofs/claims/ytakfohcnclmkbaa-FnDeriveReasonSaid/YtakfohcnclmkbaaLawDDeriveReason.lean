/- The law FnDeriveReason: the walk. -/
import Derived.Test.YtakfohcnclmkbaaLawD
import Derived.Test.YtakfohcnclmkbaaHasQ
namespace Go.Proofs.Ytakfohcnclmkbaa
open Go.RowKit
set_option linter.unusedVariables false
set_option linter.unusedSimpArgs false

/-- Every element has a reason. -/
theorem has_reason {l : List Bx} {k ds : List Int} (h : DsOk l k ds) {x : Int} (hx : x ∈ ds) : x ∈ k ∨ ∃ b ∈ l, b.1 ∈ ds ∧ x ∈ b.2 := by
  obtain ⟨hv, hd⟩ := (h.mem x).1 hx
  cases hd with
  | known hk => exact .inl hk
  | opens hb hd ha => exact .inr ⟨_, hb, (h.mem _).2 ⟨hv, hd⟩, ha⟩
/-- What the inner loop has found among the first boxes. -/
def fnd (l : List Bx) (k ds : List Int) (x : Int) (j : Nat) : Bool := decide (x ∈ k) || (l.take j).any (fun b => decide (b.1 ∈ ds) && decide (x ∈ b.2))
theorem fnd_succ {l : List Bx} {k ds : List Int} {x : Int} {j : Nat} (h : j < l.length) : fnd l k ds x (j + 1) = (fnd l k ds x j || (decide ((l.getD j bxD).1 ∈ ds) && decide (x ∈ (l.getD j bxD).2))) := by
  unfold fnd; rw [(takeB l j h).1, List.any_append]; simp [Bool.or_assoc]
theorem fnd_all {l : List Bx} {k ds : List Int} (h : DsOk l k ds) {x : Int} (hx : x ∈ ds) : fnd l k ds x l.length = true := by
  unfold fnd
  rw [List.take_length, Bool.or_eq_true, decide_eq_true_iff, List.any_eq_true]
  rcases has_reason h hx with h | ⟨b, hb, h1, h2⟩
  · exact .inl h
  · exact .inr ⟨b, hb, by rw [decide_eq_true h1, decide_eq_true h2]; rfl⟩
theorem rising {ds : List Int} (h : ds.Pairwise (· < ·)) {i : Nat} (hi : i < ds.length) (h0 : 0 < i) : ds.getD (i - 1) 0 < ds.getD i 0 := by
  have h1 : i - 1 < ds.length := by omega
  rw [List.getD_eq_getElem?_getD, List.getD_eq_getElem?_getD, List.getElem?_eq_getElem h1, List.getElem?_eq_getElem hi]
  exact List.pairwise_iff_getElem.1 h (i - 1) i h1 hi (by omega)

set_option maxRecDepth 100000 in
set_option maxHeartbeats 1000000 in
theorem derivereason_walk (a : Option Addr) (len cap : Nat) (zs : List Int) (w : World) (h : IsRow .u8 w a len cap zs) :
    Calls Try.prog 4 #[.slice a len cap] w fun e w' => e = .returned (.bool true) ∧ Below w.heap.size w w' := by
  have H := Lib.hid h
  clear h
  by_cases hl : 1048576 < len
  · have hl' : (1048576 : Int) < (len : Int) := by omega
    go_enter Try.func4, Try.ntmps4
    go_wp2
    go_ret
    exact ⟨rfl, Below.refl _ _⟩
  have hl' : ¬ (1048576 : Int) < (len : Int) := by omega
  go_enter Try.func4, Try.ntmps4
  go_wp2_with fail
  refine (drawDe_any a len cap zs w H.out).mono ?_
  rintro e w1 ⟨v, u, l, k, rfl, hb, hv, hu, hd, hnn⟩
  have HB1 := Lib.hid hb
  have HDL := Lib.hid hd
  have HV1 := Lib.hid hv
  have HU1 := Lib.hid hu
  have HL := Lib.hid hd.lens
  have SV : Hid (∀ W, Bxs W v l → Calls Try.prog 20 #[v] W fun e w' => e = .returned (.bool (bsok l)) ∧ Below W.heap.size W w') := Lib.hid fun W hW => sboxes_any v l W hW (by have := HL.out.1; omega) HL.out.2.1
  obtain ⟨va, vc, rfl⟩ := hv.shape
  obtain ⟨ua, uc, rfl⟩ := hu.shape
  have HNN : Hid ((Value.slice ua k.length uc).ownBlock ≠ none ∨ Value.slice ua k.length uc = .slice none 0 0) := Lib.hid (.inl hnn)
  clear hb hv hu hd hnn
  go_wp2_with fail
  refine (ider_any _ _ l k w1 HV1.out HU1.out (by have := HL.out.1; omega) HL.out.2.1 HL.out.2.2).mono ?_
  rintro e w2 ⟨ov, rfl, hb, ho, hn⟩
  have HB2 := Lib.hid (HB1.out.trans (hb.mono HB1.out.size))
  have HV2 := Lib.hid (HV1.out.below hb)
  have HU2 := Lib.hid (HU1.out.below hb)
  have HO2 := Lib.hid ho.ints
  have HON := Lib.hid ho.nn
  have HDM : Hid (DsOk l k (dl l k)) := Lib.hid (DsOk.mk' l k)
  have SD := Lib.hid (fun W hW hU => sder_any (.slice va l.length vc) (.slice ua k.length uc) l k W hW hU (by have := HL.out.1; omega) HL.out.2.1 HL.out.2.2)
  obtain ⟨oa, oc, rfl⟩ := ho.shape
  obtain ⟨ds, hds⟩ : ∃ ds, dl l k = ds := ⟨_, rfl⟩
  have HDS := Lib.hid hds
  rw [hds] at HO2 HDM SD HON
  rw [hds]
  clear hb ho hn hds HV1 HU1
  go_wp2_with fail
  refine (SD.out w2 HV2.out HU2.out).mono ?_
  rintro e w3 ⟨sv, rfl, hb, hs⟩
  have HB3 := Lib.hid (HB2.out.trans (hb.mono HB2.out.size))
  have HV3 := Lib.hid (HV2.out.below hb)
  have HU3 := Lib.hid (HU2.out.below hb)
  have HO3 := Lib.hid (HO2.out.below hb)
  have HS3 := Lib.hid hs.ints
  obtain ⟨sa, sc, rfl⟩ := hs.shape
  clear hb hs HV2 HU2 HO2 SD
  have hdl20 : ds.length ≤ 20 := HDM.out.len
  have HSS : Hid ((ds == ds) = true) := Lib.hid (beq_self_eq_true ds)
  go_wp2_with fail
  refine (same_any _ _ ds ds w3 HO3.out HS3.out (by omega) (by omega)).mono ?_
  rw [HSS.out]
  rintro e w4 ⟨rfl, hb⟩
  have HB4 := Lib.hid (HB3.out.trans (hb.mono HB3.out.size))
  have HV4 := Lib.hid (HV3.out.below hb)
  have HU4 := Lib.hid (HU3.out.below hb)
  have HO4 := Lib.hid (HO3.out.below hb)
  have HS4 := Lib.hid (HS3.out.below hb)
  clear hb HV3 HU3 HO3 HS3
  have B4 : Hid (Below w4.heap.size w4 w4) := Lib.hid (Below.refl _ _)
  have HKL : k.length ≤ 1048576 := HL.out.2.2
  have HLL : l.length ≤ 900000 := HL.out.1
  go_wp2_with fail
  go_loopw [7] (fun iv wr => ∃ j : Nat, j ≤ ds.length ∧ iv = .int .i64 (j : Int) ∧ Hid (Below w4.heap.size w4 wr)) (fun iv _ => ds.length - (intOf iv).toNat)
  case atStart => exact ⟨0, Nat.zero_le _, rfl, B4⟩
  case round =>
    clear B4
    obtain ⟨j, hj, rfl, HB⟩ := hrel
    by_cases hlt : j < ds.length
    · have hlt' : (j : Int) < (ds.length : Int) := by omega
      obtain ⟨g, o, rfl, e1, hx⟩ := cell_at (HO4.out.below HB.out) hlt
      have HX := Lib.hid hx
      have HALL := Lib.hid (fnd_all HDM.out hx)
      have HRIS := Lib.hid (fun h0 => rising HDM.out.sorted hlt h0)
      have HPREV := Lib.hid (fun (W : World) (hW : Below w4.heap.size w4 W) (h0 : 0 < j) => (HO4.out.below hW).cells (by rintro rfl; simp at hlt))
      obtain ⟨x, hxx⟩ : ∃ x, ds.getD j 0 = x := ⟨_, rfl⟩
      have HXX := Lib.hid hxx
      rw [hxx] at e1 HX HALL HRIS
      have E1 := Lib.hid ((fun (W : World) (hW : Below wr.heap.size wr W) => (hW.cell (World.block_lt_of_cell? _ _ e1)).trans e1))
      clear hx hxx
      go_wp2_with fail
      refine (lhas_any _ k x wr (HU4.out.below HB.out) (by omega)).mono ?_
      rintro e w5 ⟨rfl, hb⟩
      have HB5 := Lib.hid (HB.out.trans (hb.mono HB.out.size))
      have HBr5 := Lib.hid hb
      clear hb e1
      have HF0 : Hid (decide (x ∈ k) = fnd l k ds x 0) := Lib.hid (by unfold fnd; simp)
      rw [HF0.out]
      clear HF0
      go_wp2_with fail
      go_loopw [8, 9] (fun fv iv wr => ∃ i : Nat, i ≤ l.length ∧ iv = .int .i64 (i : Int) ∧ fv = .bool (fnd l k ds x i) ∧ Hid (Below w4.heap.size w4 wr)) (fun _ iv _ => l.length - (intOf iv).toNat)
      case atStart => exact ⟨0, Nat.zero_le _, rfl, rfl, HB5⟩
      case round =>
        clear HB HB5 HBr5 E1
        obtain ⟨i, hi, rfl, rfl, HB⟩ := hrel
        obtain ⟨g', o', hgo, e1, _⟩ := cell_at (HO4.out.below HB.out) hlt
        injection hgo with hgo; injection hgo with hg1 hg2; subst hg1; subst hg2
        rw [HXX.out] at e1
        by_cases hil : i < l.length
        · have hil' : (i : Int) < (l.length : Int) := by omega
          obtain ⟨g2, o2, ra, rc, rfl, ⟨c0, c1, hin⟩, hmem⟩ := box_at (HV4.out.below HB.out) hil
          have HFS := Lib.hid (fnd_succ (k := k) (ds := ds) (x := x) hil)
          have HIL := Lib.hid (HL.out.2.1 _ hmem)
          generalize l.getD i bxD = b at *
          obtain ⟨key, ins⟩ := b
          simp only at c0 c1 hin
          have HIN := Lib.hid hin
          clear hmem hin
          have hil2 : ins.length ≤ 1048576 := HIL.out
          have LH1 : Hid (∀ m, Calls Try.prog 19 #[.slice (some ⟨g, o, none⟩) ds.length oc, .int .i64 key] (wr.drewN m) fun e w' => e = .returned (.bool (decide (key ∈ ds))) ∧ ∃ n, w' = wr.drewN n) := Lib.hid fun m => Calls.quiet_of (lhasq_any _ ds key _ ((HO4.out.below HB.out).below (below_drewN (Below.refl _ _) m)) (by omega))
          have LH2 : Hid (∀ m, Calls Try.prog 19 #[.slice ra ins.length rc, .int .i64 x] (wr.drewN m) fun e w' => e = .returned (.bool (decide (x ∈ ins))) ∧ ∃ n, w' = wr.drewN n) := Lib.hid fun m => Calls.quiet_of (lhasq_any _ ins x _ (HIN.out.below (below_drewN (Below.refl _ _) m)) hil2)
          have HBn := Lib.hid (fun n => below_drewN HB.out n)
          generalize decide (key ∈ ds) = q1 at *
          generalize decide (x ∈ ins) = q2 at *
          generalize fnd l k ds x i = f0 at *
          clear hil2
          have HN := Lib.hid (show fnd l k ds x (i + 1) = (f0 || (q1 && q2)) from HFS.out)
          clear HFS
          cases f0 with
          | true =>
            have HN2 : Hid (true = fnd l k ds x (i + 1)) := Lib.hid (by rw [HN.out]; rfl)
            clear HN
            go_wp2_with fail
            go_quiet (fail)
            go_wp2_with fail
            go_roundw
            case rel => exact ⟨i + 1, by omega, by go_num, by rw [← HN2.out], HBn.out _⟩
            case measure => simp [intOf]; omega
          | false =>
            cases q1 with
            | false =>
              have HN2 : Hid (false = fnd l k ds x (i + 1)) := Lib.hid (by rw [HN.out]; rfl)
              clear HN
              go_wp2_with fail
              go_quiet ((go_at_call 19; exact LH1.out _))
              go_wp2_with fail
              go_roundw
              case rel => exact ⟨i + 1, by omega, by go_num, by rw [← HN2.out], HBn.out _⟩
              case measure => simp [intOf]; omega
            | true =>
              have HN2 : Hid (q2 = fnd l k ds x (i + 1)) := Lib.hid (by rw [HN.out]; rfl)
              clear HN
              go_wp2_with fail
              go_quiet ((go_at_call 19; first | (with_reducible exact LH1.out _) | (with_reducible exact LH2.out _)))
              go_wp2_with fail
              go_roundw
              case rel => exact ⟨i + 1, by omega, by go_num, by rw [← HN2.out], HBn.out _⟩
              case measure => simp [intOf]; omega
        · have hil' : ¬ (i : Int) < (l.length : Int) := by omega
          have HFA : Hid (fnd l k ds x i = true) := Lib.hid (by rw [show i = l.length by omega]; exact HALL.out)
          rw [HFA.out]
          clear HFA
          by_cases h0 : 0 < j
          · obtain ⟨p, hp⟩ : ∃ p : Nat, p + 1 = j := ⟨j - 1, by omega⟩
            have HP := Lib.hid hp
            have hpl : p < ds.length := by omega
            have hpl' : (p : Int) < (ds.length : Int) := by omega
            have hp0 : (0 : Int) ≤ (p : Int) := by omega
            have hw1 : IntKind.i64.wrap ((j : Int) - 1) = (p : Int) := by rw [show (j : Int) - 1 = (p : Int) by omega]; exact IntWalk.i64_in _ (by omega)
            have hr := HRIS.out h0
            rw [show j - 1 = p by omega] at hr
            obtain ⟨g', o', hgo, hcc⟩ := HPREV.out wr HB.out h0
            injection hgo with hgo; injection hgo with hg1 hg2; subst hg1; subst hg2
            have e2 := hcc p hpl
            clear hcc hp
            generalize ds.getD p 0 = y at *
            have hge : ¬ y ≥ x := by omega
            have hge' : ¬ x ≤ y := by omega
            have hj1 : (j : Int) > 0 := by omega
            have hj2 : (0 : Int) < (j : Int) := by omega
            go_wp2_with fail
            go_quiet (fail)
            go_wp2_with fail
            go_roundw
            case rel => exact ⟨j + 1, by omega, by go_num, Lib.hid (below_drewN HB.out _)⟩
            case measure => simp [intOf]; omega
          · have hj1 : ¬ (j : Int) > 0 := by omega
            have hj2 : ¬ (0 : Int) < (j : Int) := by omega
            go_wp2_with fail
            go_quiet (fail)
            go_wp2_with fail
            go_roundw
            case rel => exact ⟨j + 1, by omega, by go_num, Lib.hid (below_drewN HB.out _)⟩
            case measure => simp [intOf]; omega
    · have hlt' : ¬ (j : Int) < (ds.length : Int) := by omega
      go_wp2_with fail
      go_ret
      exact ⟨rfl, HB4.out.trans (HB.out.mono HB4.out.size)⟩

end Go.Proofs.Ytakfohcnclmkbaa
