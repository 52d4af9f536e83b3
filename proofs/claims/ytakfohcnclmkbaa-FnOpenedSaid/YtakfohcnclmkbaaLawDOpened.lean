/- The law FnOpened: the walk. -/
import Derived.Test.YtakfohcnclmkbaaLawD
namespace Go.Proofs.Ytakfohcnclmkbaa
open Go.RowKit
set_option linter.unusedVariables false
set_option linter.unusedSimpArgs false

theorem openedL_mem {l : List Bx} {k : List Int} {i : Nat} (hi : i < l.length) : decide ((i : Int) ∈ openedL l k) = db l k (l.getD i bxD).1 := by
  rw [Bool.eq_iff_iff, decide_eq_true_iff]
  unfold openedL
  rw [List.mem_map]
  constructor
  · rintro ⟨j, hj, e⟩
    have e2 : j = i := by omega
    subst e2
    exact (List.mem_filter.1 hj).2
  · intro h
    exact ⟨i, List.mem_filter.2 ⟨List.mem_range.2 hi, h⟩, rfl⟩
theorem openedL_len (l : List Bx) (k : List Int) : (openedL l k).length ≤ l.length := by
  unfold openedL; rw [List.length_map]
  have := List.length_filter_le (fun i => db l k (l.getD i (0, [])).1) (List.range l.length)
  rw [List.length_range] at this; exact this
noncomputable def opnd (l : List Bx) (k : List Int) (m : List Bx) : List Bx := m.filter (fun b => db l k b.1)
theorem opnd_succ {l : List Bx} {k : List Int} {j : Nat} (h : j < l.length) : (db l k (l.getD j bxD).1 = true → opnd l k (l.take (j + 1)) = opnd l k (l.take j) ++ [l.getD j bxD]) ∧ (db l k (l.getD j bxD).1 = false → opnd l k (l.take (j + 1)) = opnd l k (l.take j)) := by
  rw [(takeB l j h).1]
  unfold opnd
  rw [List.filter_append]
  constructor
  · intro h; rw [List.filter_cons_of_pos (by exact h)]; rfl
  · intro h; rw [List.filter_cons_of_neg (by show ¬ db l k (l.getD j bxD).1 = true; rw [h]; simp)]; simp
theorem opnd_dl {l : List Bx} {k : List Int} (hv : bsok l = true) : dl (opnd l k l) k = dl l k := by
  by_cases hk : kok k = true
  · have hs : bsok (opnd l k l) = true := by
      obtain ⟨h1, h2⟩ := bsok_iff.1 hv
      exact bsok_iff.2 ⟨Nat.le_trans (List.length_filter_le _ _) h1, fun b hb => h2 b (List.mem_filter.1 hb).1⟩
    refine lt_sorted_ext (dl_sorted _ _) (dl_sorted _ _) fun x => ?_
    rw [mem_dl, mem_dl]
    constructor
    · rintro ⟨_, h⟩
      exact ⟨⟨hv, hk⟩, Der.mono (fun b hb => (List.mem_filter.1 hb).1) (fun a ha => ha) h⟩
    · rintro ⟨_, h⟩
      refine ⟨⟨hs, hk⟩, ?_⟩
      refine (Der.least (S := fun a => Der (opnd l k l) k a ∧ Der l k a) (fun a ha => ⟨.known ha, .known ha⟩) (fun b hb hsb a ha => ⟨.opens (List.mem_filter.2 ⟨hb, db_iff.2 ⟨⟨hv, hk⟩, hsb.2⟩⟩) hsb.1 ha, .opens hb hsb.2 ha⟩) h).1
  · rw [dl_invalid (fun h => hk h.2), dl_invalid (fun h => hk h.2)]

set_option maxRecDepth 100000 in
set_option maxHeartbeats 1000000 in
theorem opened_walk (a : Option Addr) (len cap : Nat) (zs : List Int) (w : World) (h : IsRow .u8 w a len cap zs) :
    Calls Try.prog 10 #[.slice a len cap] w fun e w' => e = .returned (.bool true) ∧ Below w.heap.size w w' := by
  have H := Lib.hid h
  clear h
  by_cases hl : 1048576 < len
  · have hl' : (1048576 : Int) < (len : Int) := by omega
    go_enter Try.func10, Try.ntmps10
    go_wp2
    go_ret
    exact ⟨rfl, Below.refl _ _⟩
  have hl' : ¬ (1048576 : Int) < (len : Int) := by omega
  go_enter Try.func10, Try.ntmps10
  go_wp2_with fail
  refine (drawOp_any a len cap zs w H.out).mono ?_
  rintro e w1 ⟨v, u, l, k, rfl, hb, hv, hu, hd, hnn⟩
  have HB1 := Lib.hid hb
  have HV1 := Lib.hid hv
  have HU1 := Lib.hid hu
  have HL := Lib.hid hd.lens
  have hll9 : l.length ≤ 9 := hd.len
  have HKY : Hid (∀ b ∈ l, i64ok b.1) := Lib.hid fun b hb => i64ok_of (hd.box b hb).2.1.ok.1 (hd.box b hb).2.1.ok.2
  have SV : Hid (∀ W, Bxs W v l → Calls Try.prog 20 #[v] W fun e w' => e = .returned (.bool (bsok l)) ∧ Below W.heap.size W w') := Lib.hid fun W hW => sboxes_any v l W hW (by omega) HL.out.2.1
  obtain ⟨va, vc, rfl⟩ := hv.shape
  obtain ⟨ua, uc, rfl⟩ := hu.shape
  clear hb hv hu hd hnn
  have IO := Lib.hid (iopened_any (.slice va l.length vc) (.slice ua k.length uc) l k w1 HV1.out HU1.out HL.out.1 HL.out.2.1 HL.out.2.2 HKY.out)
  have SO := Lib.hid (fun W hW hU => sopened_any (.slice va l.length vc) (.slice ua k.length uc) l k W hW hU HL.out.1 HL.out.2.1 HL.out.2.2)
  have HOM : Hid (∀ i, i < l.length → decide ((i : Int) ∈ openedL l k) = db l k (l.getD i bxD).1) := Lib.hid fun i hi => openedL_mem hi
  have hol := openedL_len l k
  generalize openedL l k = os at *
  go_wp2_with fail
  refine IO.out.mono ?_
  rintro e w2 ⟨ov, rfl, hb, ho⟩
  have HB2 := Lib.hid (HB1.out.trans (hb.mono HB1.out.size))
  have HV2 := Lib.hid (HV1.out.below hb)
  have HU2 := Lib.hid (HU1.out.below hb)
  have HO2 := Lib.hid ho.ints
  obtain ⟨oa, oc, rfl⟩ := ho.shape
  clear hb ho IO
  go_wp2_with fail
  refine (SO.out w2 HV2.out HU2.out).mono ?_
  rintro e w3 ⟨sv, rfl, hb, hs⟩
  have HB3 := Lib.hid (HB2.out.trans (hb.mono HB2.out.size))
  have HV3 := Lib.hid (HV2.out.below hb)
  have HU3 := Lib.hid (HU2.out.below hb)
  have HO3 := Lib.hid (HO2.out.below hb)
  have HS3 := Lib.hid hs.ints
  obtain ⟨sa, sc, rfl⟩ := hs.shape
  clear hb hs SO
  have HSS : Hid ((os == os) = true) := Lib.hid (beq_self_eq_true os)
  go_wp2_with fail
  refine (same_any _ _ os os w3 HO3.out HS3.out (by omega) (by omega)).mono ?_
  rw [HSS.out]
  rintro e w4 ⟨rfl, hb⟩
  have HB4 := Lib.hid (HB3.out.trans (hb.mono HB3.out.size))
  have HV4 := Lib.hid (HV3.out.below hb)
  have HU4 := Lib.hid (HU3.out.below hb)
  have HO4 := Lib.hid (HO3.out.below hb)
  have HS4 := Lib.hid (HS3.out.below hb)
  clear hb
  cases hq : bsok l with
  | false =>
    have HQ := Lib.hid hq
    clear hq
    go_wp2_with fail
    refine (SV.out _ HV4.out).mono ?_
    rw [HQ.out]
    rintro e w5 ⟨rfl, hb⟩
    have HB5 := Lib.hid (HB4.out.trans (hb.mono HB4.out.size))
    have HO5 := Lib.hid (HO4.out.below hb)
    have HS5 := Lib.hid (HS4.out.below hb)
    clear hb
    go_wp2_with fail
    refine (same_any _ _ os os w5 HO5.out HS5.out (by omega) (by omega)).mono ?_
    rw [HSS.out]
    rintro e w6 ⟨rfl, hb⟩
    have HB6 := Lib.hid (HB5.out.trans (hb.mono HB5.out.size))
    clear hb
    go_wp2_with fail
    go_ret
    exact ⟨rfl, HB6.out⟩
  | true =>
  have HQ := Lib.hid hq
  clear hq
  go_wp2_with fail
  refine (SV.out _ HV4.out).mono ?_
  rw [HQ.out]
  rintro e w5 ⟨rfl, hb⟩
  have HB5w0 : Hid (Below w4.heap.size w4 w5) := Lib.hid hb
  have HB5 := Lib.hid (HB4.out.trans (hb.mono HB4.out.size))
  have HV5 := Lib.hid (HV4.out.below hb)
  have HU5 := Lib.hid (HU4.out.below hb)
  have HO5 := Lib.hid (HO4.out.below hb)
  clear hb
  have hBA : Below w5.heap.size w5 (w5.alloc (.cells #[] 31)) := (Below.refl _ _).alloc (Nat.le_refl _) _
  have HB5w : Hid (Below w4.heap.size w4 w5) := HB5w0
  have HBA := Lib.hid hBA
  have HRA := Lib.hid (OwnB.new w5.heap.size w5 (Nat.le_refl _))
  have HVA := Lib.hid (HV5.out.below hBA)
  have HUA := Lib.hid (HU5.out.below hBA)
  clear hBA
  have HDM : Hid (∀ i, i < l.length → decide ((l.getD i bxD).1 ∈ dl l k) = db l k (l.getD i bxD).1) := Lib.hid fun i _ => by rw [Bool.eq_iff_iff, decide_eq_true_iff, mem_dl, db_iff]
  have HDO : Hid (dl (opnd l k l) k = dl l k) := Lib.hid (opnd_dl HQ.out)
  have ID := Lib.hid (fun W hW hU => ider_any (.slice va l.length vc) (.slice ua k.length uc) l k W hW hU (by omega) HL.out.2.1 HL.out.2.2)
  have hdl := dl_len l k
  obtain ⟨ds, hds⟩ : ∃ ds, dl l k = ds := ⟨_, rfl⟩
  rw [hds] at HDM HDO ID hdl
  clear hds
  have HDD : Hid ((ds == ds) = true) := Lib.hid (beq_self_eq_true ds)
  go_wp2_with fail
  refine (ID.out _ HVA.out HUA.out).mono ?_
  rintro e w6 ⟨dv, rfl, hb, ho, _⟩
  obtain ⟨da, dc, rfl⟩ := ho.shape
  have HB6 : Hid (Below w5.heap.size w5 w6) := Lib.hid (HBA.out.trans (hb.mono HBA.out.size))
  have HR6 := Lib.hid (HRA.out.below hb)
  have HD6 := Lib.hid ho.ints
  have HV6 := Lib.hid (HV5.out.below HB6.out)
  have HU6 := Lib.hid (HU5.out.below HB6.out)
  have HO6 := Lib.hid (HO5.out.below HB6.out)
  have hsz6 : w5.heap.size + 1 ≤ w6.heap.size := by have := hb.size; simpa using this
  have HF6 : Hid (Far2 (.slice da ds.length dc) (.slice (some ⟨w5.heap.size, 0, none⟩) 0 0)) := Lib.hid (by
    right
    intro he
    have := (ho.lt he).1
    simp at this
    omega)
  have HD6o : Hid (OwnI w6 w5.heap.size (.slice da ds.length dc) ds) := Lib.hid (ho.base (by simp))
  clear hb ho HBA HRA HVA HUA hsz6
  go_wp2_with fail
  go_loopw [7, 9] (fun bv iv wr => ∃ (j : Nat) (rows : List BxR), j ≤ l.length ∧ rows.length ≤ j ∧ iv = .int .i64 (j : Int) ∧ Hid (Below w5.heap.size w5 wr) ∧ Hid (OwnB wr w5.heap.size bv rows) ∧ Hid (OwnI wr w5.heap.size (.slice da ds.length dc) ds) ∧ Hid (Far2 (.slice da ds.length dc) bv) ∧ Hid (rows.map Prod.fst = opnd l k (l.take j)) ∧ Hid (∀ r ∈ rows, Ints w5 (bsl r) r.1.2)) (fun _ iv _ => l.length - (intOf iv).toNat)
  case atStart => exact ⟨0, [], Nat.zero_le _, Nat.le_refl _, rfl, HB6, HR6, HD6o, HF6, Lib.hid rfl, Lib.hid (by simp)⟩
  case round =>
    clear HB6 HR6 HD6o HF6 HV6 HU6 HO6 HD6
    obtain ⟨j, rows, hj, hrl, rfl, HB, HR, HD, HF, HE, HI⟩ := hrel
    obtain ⟨ba, bc, rfl⟩ := HR.out.shape
    by_cases hlt : j < l.length
    · have hlt' : (j : Int) < (l.length : Int) := by omega
      obtain ⟨g, o, ra, rc, rfl, ⟨c0, c1, hin⟩, hmem⟩ := box_at (HV5.out.below HB.out) hlt
      have HIN0 : Hid (Ints w5 (.slice ra (l.getD j bxD).2.length rc) (l.getD j bxD).2) := by
        obtain ⟨g', o', ra', rc', he, ⟨d0, d1, hin'⟩, _⟩ := box_at HV5.out hlt
        injection he with he; injection he with he1 he2; subst he1; subst he2
        have := (HB.out.cell (World.block_lt_of_cell? _ _ d1)).trans d1
        rw [this] at c1
        injection c1 with c1; injection c1 with q1 _ q3
        subst q1; subst q3
        exact Lib.hid hin'
      have HS := Lib.hid (opnd_succ (k := k) hlt)
      have HM1 := Lib.hid (HOM.out j hlt)
      have HM2 := Lib.hid (HDM.out j hlt)
      generalize hbq : l.getD j bxD = b at *
      clear hbq hin hmem
      obtain ⟨key, ins⟩ := b
      simp only at c0 c1 HIN0 HS HM1 HM2
      have C0 := Lib.hid c0
      have C1 := Lib.hid c1
      have hne : (db l k key != db l k key) = false := by cases db l k key <;> rfl
      have hne2 : (db l k key == db l k key) = true := by cases db l k key <;> rfl
      obtain ⟨q, hq⟩ : ∃ q, db l k key = q := ⟨_, rfl⟩
      rw [hq] at hne hne2 HM1 HM2 HS
      clear hq
      have HBd := Lib.hid HB.out.drew
      have CD : Hid (wr.drew.cell? ⟨g, o + j * 2, none⟩ = some (.int .i64 key)) := Lib.hid c0
      have hlg : g < wr.drew.heap.size := World.block_lt_of_cell? wr _ c0
      have HLG := Lib.hid hlg
      have LH1 : Hid (Calls Try.prog 19 #[.slice oa os.length oc, .int .i64 (j : Int)] wr.drew fun e w' => e = .returned (.bool q) ∧ Below wr.drew.heap.size wr.drew w') := Lib.hid (by
        have := lhas_any _ os (j : Int) wr.drew ((HO5.out.below HB.out).below (Below.refl _ _).drew) (by omega)
        rw [HM1.out] at this
        exact this)
      have LH2 : Hid (∀ W, Below wr.drew.heap.size wr.drew W → Calls Try.prog 19 #[.slice da ds.length dc, .int .i64 key] W fun e w' => e = .returned (.bool q) ∧ Below W.heap.size W w') := Lib.hid fun W hW => by
        have := lhas_any _ ds key W ((HD.out.ints.below (Below.refl _ _).drew).below hW) (by omega)
        rw [HM2.out] at this
        exact this
      clear c0 c1 hlg
      go_wp2_with fail
      go_region_held3 (fun w' => w'.cell? ⟨g, o + j * 2, none⟩ = some (.int .i64 key)) (with_reducible first | assumption | exact CD.out | exact k2 | exact k8)
        (first
          | (go_at_call 19; refine (LH2.out _ hb7).mono ?_; rintro e w8 ⟨rfl, hb8⟩; have k8 : w8.cell? ⟨g, o + j * 2, none⟩ = some (.int .i64 key) := ((hb7.trans (hb8.mono hb7.size)).cell HLG.out).trans CD.out)
          | (go_at_call 19; refine LH1.out.mono ?_; rintro e w7 ⟨rfl, hb7⟩; have k2 : w7.cell? ⟨g, o + j * 2, none⟩ = some (.int .i64 key) := (hb7.cell HLG.out).trans CD.out))
      have HB8' := Lib.hid (hb7.trans (hb8.mono hb7.size))
      have HB8 := Lib.hid (HBd.out.trans (HB8'.out.mono HBd.out.size))
      have HR8 := Lib.hid ((HR.out.below (Below.refl _ _).drew).below HB8'.out)
      have HD8 : Hid (OwnI w8 w5.heap.size (.slice da ds.length dc) ds) := Lib.hid ((HD.out.below (Below.refl _ _).drew).below HB8'.out)
      clear hb7 hb8 k2 k8
      go_wp2_with fail
      refine (lhas_any _ os (j : Int) w8 (HO5.out.below HB8.out) (by omega)).mono ?_
      rw [HM1.out]
      rintro e w9 ⟨rfl, hb⟩
      have HB9 := Lib.hid (HB8.out.trans (hb.mono HB8.out.size))
      have HR9 := Lib.hid (HR8.out.below hb)
      have HD9 : Hid (OwnI w9 w5.heap.size (.slice da ds.length dc) ds) := Lib.hid (HD8.out.below hb)
      have hsz : wr.heap.size ≤ w9.heap.size := Nat.le_trans HB8'.out.size hb.size
      have HSZ := Lib.hid hsz
      have e0 : w9.cell? ⟨g, o + j * 2, none⟩ = some (.int .i64 key) := ((HB8'.out.trans (hb.mono HB8'.out.size)).cell (World.block_lt_of_cell? wr _ C0.out)).trans C0.out
      have e1 : w9.cell? ⟨g, o + j * 2 + 1, none⟩ = some (.slice ra ins.length rc) := ((HB8'.out.trans (hb.mono HB8'.out.size)).cell (World.block_lt_of_cell? wr _ C1.out)).trans C1.out
      clear hb hsz
      cases q with
      | false =>
        have HS2 := Lib.hid (HS.out.2 rfl)
        go_wp2_with fail
        go_roundw
        case rel => exact ⟨j + 1, rows, by omega, by omega, by go_num, HB9, HR9, HD9, HF, Lib.hid (by rw [HS2.out]; exact HE.out), HI⟩
        case measure => simp [intOf]; omega
      | true =>
        have HS2 := Lib.hid (HS.out.1 rfl)
        go_wp2_with (at_builtin; refine wpList_app_box _ rfl _ _ rfl w5.heap.size _ rows rfl HR9.out ((key, ins), ra, rc) _ _ rfl (by simp) ?c1 ?c2 ?_)
        case c1 => omega
        case c2 => exact HB9.out.size
        intro v' w10 ho hgr hbk
        have HB10 := Lib.hid (OwnB.grown_below HB9.out HR9.out HB9.out.size hgr)
        have HR10 := Lib.hid ho
        have HF10 : Hid (Far2 (.slice da ds.length dc) v') := Lib.hid (HF.out.next HD9.out (Nat.le_succ _) hbk)
        have HD10 : Hid (OwnI w10 w5.heap.size (.slice da ds.length dc) ds) := Lib.hid ((HD9.out.alloc _).kept hgr HF.out)
        clear ho hgr hbk
        go_wp2_with fail
        go_roundw
        case rel =>
          refine ⟨j + 1, rows ++ [((key, ins), ra, rc)], by omega, by simp; omega, by go_num, HB10, HR10, HD10, HF10, Lib.hid (by rw [HS2.out, List.map_append, HE.out]; rfl), Lib.hid fun r hr => ?_⟩
          rcases List.mem_append.1 hr with hr | hr
          · exact HI.out r hr
          · rw [List.mem_singleton.1 hr]; exact HIN0.out
        case measure => simp [intOf]; omega
    · have hlt' : ¬ (j : Int) < (l.length : Int) := by omega
      have hE := HE.out
      rw [List.take_of_length_le (by omega)] at hE
      have HX : Hid (Bxs wr (.slice ba rows.length bc) (opnd l k l)) := Lib.hid (by rw [← hE]; exact HR.out.bxs fun r hr => (HI.out r hr).below HB.out)
      have HOL : Hid ((opnd l k l).length ≤ l.length) := Lib.hid (List.length_filter_le _ _)
      have HOB : Hid (∀ b ∈ opnd l k l, b ∈ l) := Lib.hid fun b hb => (List.mem_filter.1 hb).1
      have HU7 := Lib.hid (HU5.out.below HB.out)
      clear hE
      generalize opnd l k l = ol at *
      go_wp2_with fail
      refine (ider_any _ _ ol k wr HX.out HU7.out (by have := HOL.out; omega) (fun b hb => HL.out.2.1 b (HOB.out b hb)) HL.out.2.2).mono ?_
      rw [HDO.out]
      rintro e w7 ⟨v7, rfl, hb, ho, _⟩
      obtain ⟨a7, c7, rfl⟩ := ho.shape
      have HB7 := Lib.hid (HB.out.trans (hb.mono HB.out.size))
      have HX7 := Lib.hid ho.ints
      have HY7 := Lib.hid (HD.out.below hb).ints
      clear hb ho
      go_wp2_with fail
      refine (same_any _ _ ds ds w7 HX7.out HY7.out (by omega) (by omega)).mono ?_
      rw [HDD.out]
      rintro e w8 ⟨rfl, hb⟩
      have HB8 := Lib.hid (HB7.out.trans (hb.mono HB7.out.size))
      clear hb
      go_wp2_with fail
      go_ret
      exact ⟨rfl, HB4.out.trans (((HB5w.out).trans (HB8.out.mono HB5w.out.size)).mono HB4.out.size)⟩

end Go.Proofs.Ytakfohcnclmkbaa
