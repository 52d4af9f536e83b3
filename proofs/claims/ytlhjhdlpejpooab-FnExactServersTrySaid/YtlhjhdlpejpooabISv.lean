/- The program's ServersTry. -/
import Derived.Test.YtlhjhdlpejpooabTgs
import Derived.Test.YtlhjhdlpejpooabSvV
import Derived.Test.YtlhjhdlpejpooabHome
import Derived.Test.YtlhjhdlpejpooabIRy
import Derived.Deep.CutBlock
import Derived.Deep.RegionHeld3
import Derived.Test.YtlhjhdlpejpooabLawP
import Derived.Test.YtlhjhdlpejpooabSTryv
namespace Go.Proofs.Ytlhjhdlpejpooab
open Go.RowKit
set_option linter.unusedVariables false
set_option linter.unusedSimpArgs false

theorem stry_no {L : List Reg} {i : Int} {t : Tic} (h : ¬ (sok L ∧ tkvd t ∧ (0 ≤ i ∧ i < L.length))) : stry L i t = ([], false) := by unfold stry; rw [if_neg h]
theorem stry_away {L : List Reg} {i : Int} {t : Tic} (h : sok L ∧ tkvd t ∧ (0 ≤ i ∧ i < L.length)) (hn : i ≠ home L.length t) : stry L i t = (L, false) := by unfold stry; rw [if_pos h, if_neg hn]
theorem stry_home {L : List Reg} {i : Int} {t : Tic} (h : sok L ∧ tkvd t ∧ (0 ≤ i ∧ i < L.length)) (hn : i = home L.length t) : stry L i t = (L.set i.toNat ((L.getD i.toNat rgD).1, (rtry (L.getD i.toNat rgD) t).1), (rtry (L.getD i.toNat rgD) t).2) := by unfold stry; rw [if_pos h, if_pos hn]; rfl
theorem getD_setR (L : List Reg) (k i : Nat) (r : Reg) (hk : k < L.length) : (L.set k r).getD i rgD = if i = k then r else L.getD i rgD := by
  rw [List.getD_eq_getElem?_getD, List.getD_eq_getElem?_getD, List.getElem?_set]
  by_cases h : i = k
  · subst h; simp [hk]
  · rw [if_neg (fun e => h e.symm), if_neg h]

set_option maxRecDepth 100000 in
set_option maxHeartbeats 8000000 in
theorem isv_any (v : Value) (L : List Reg) (at' x y : Int) (w : World) (h : Rgs False w v L) (hl : L.length ≤ 1048576) (hlen : ∀ r ∈ L, r.2.length ≤ 1048576) :
    Calls Try.prog 23 #[v, .int .i64 at', .agg #[.int .i64 x, .int .i64 y]] w (GotSv w (stry L at' (x, y)).1 (stry L at' (x, y)).2) := by
  have HV := Lib.hid h
  have HLN := Lib.hid hlen
  obtain ⟨a, c, rfl, hcap, hc⟩ := h
  clear hc hlen
  have U1 := Lib.hid ((Below.refl w.heap.size w).alloc (Nat.le_refl _) (.cells #[.int .i64 x, .int .i64 y] 38))
  have T1 := Lib.hid (RgV.new w x (.int .i64 y) 38)
  go_enter Try.func23, Try.ntmps23
  go_wp2_with fail
  generalize w.alloc (.cells #[.int .i64 x, .int .i64 y] 38) = W1 at U1 T1 ⊢
  refine (ivalid_any _ L W1 (HV.out.below U1.out) hl HLN.out).mono ?_
  rintro e w2 ⟨rfl, hb2⟩
  have U2 := Lib.hid (U1.out.trans (hb2.mono U1.out.size))
  have T2 := Lib.hid (T1.out.below hb2)
  clear hb2 U1 T1
  by_cases k1 : sok L
  · rw [decide_eq_true k1]
    have HK := Lib.hid k1
    have hl4 : L.length ≤ 4 := k1.1.2
    have hl1 : 1 ≤ L.length := k1.1.1
    clear k1
    obtain ⟨t0, t1⟩ := T2.out
    go_wp2_with fail
    refine (isticket_any (x, y) w2).mono ?_
    rintro e w3 ⟨rfl, hb3⟩
    have U3 := Lib.hid (U2.out.trans (hb3.mono U2.out.size))
    have T3 := Lib.hid (T2.out.below hb3)
    clear hb3 U2 T2 t0 t1
    by_cases k2 : tkvd (x, y)
    · rw [decide_eq_true k2]
      have HT := Lib.hid k2
      clear k2
      by_cases k3 : at' < 0
      · have HR := Lib.hid (stry_no (L := L) (i := at') (t := (x, y)) fun h => by have := h.2.2.1; omega)
        have d1 := decide_eq_true k3
        go_wp2_with fail
        go_ret2
        rw [HR.out]
        exact ⟨_, rfl, U3.out, .inl ⟨rfl, rfl⟩⟩
      · have d1 := decide_eq_false k3
        by_cases k4 : (L.length : Int) ≤ at'
        · have HR := Lib.hid (stry_no (L := L) (i := at') (t := (x, y)) fun h => by have := h.2.2.2; omega)
          have d2 := decide_eq_true k4
          go_wp2_with fail
          go_ret2
          rw [HR.out]
          exact ⟨_, rfl, U3.out, .inl ⟨rfl, rfl⟩⟩
        · have d2 := decide_eq_false k4
          obtain ⟨p, rfl⟩ : ∃ p : Nat, at' = (p : Int) := ⟨at'.toNat, by omega⟩
          have hp : p < L.length := by omega
          have HG := Lib.hid (show sok L ∧ tkvd (x, y) ∧ (0 ≤ (p : Int) ∧ (p : Int) < L.length) from ⟨HK.out, HT.out, by omega, by omega⟩)
          obtain ⟨i0, hi, hz0, hz1, hz2⟩ := info_parts try_infoRegister
          have HI := Lib.hid hi
          clear hi
          have HN3 : Hid (w.heap.size ≤ w3.heap.size) := Lib.hid U3.out.size
          go_wp2_with (at_make; refine wpList_make_full _ rfl _ _ 43 rfl w3.heap.size 28 i0 (.agg #[.int .i64 0, .slice none 0 0]) 2 Try.underlying43 HI.out hz0 hz1 .i64 .i64 _ _ L.length rfl rfl rfl rfl (by rw [hz2]; omega) (by unfold maxLen; omega) (Nat.le_refl _) ?_)
          intro w4 hown hgrow
          have B4 : Hid (Below w3.heap.size w3 w4) := Lib.hid ((Below.refl _ _).grown hgrow (Nat.le_refl _) (fun k hk => by cases hk))
          have W4 : Hid (Wr w4 w3.heap.size (L.length * 2)) := Lib.hid (fun k hk => by
            have hc := hown.cellAt k (by omega)
            have hz : k < (madeCells #[Value.int .i64 0, .slice none 0 0] (L.length * 2)).toList.length := by simp [madeCells]; omega
            rw [List.getElem?_eq_getElem hz] at hc
            exact ⟨⟨_, hc⟩, hown.frozenAt k⟩)
          have T4 := Lib.hid (T3.out.below B4.out)
          have V4 := Lib.hid ((HV.out.below U3.out).below B4.out)
          have U4 := Lib.hid (U3.out.trans (B4.out.mono HN3.out))
          have HZ4 : Hid (w3.heap.size < w4.heap.size) := Lib.hid (by
            obtain ⟨⟨u, hu⟩, _⟩ := W4.out 0 (by omega)
            exact World.block_lt_of_cell? w4 _ hu)
          have G4 : Hid (ToG w4 w3.heap.size L.length (fun _ => .slice none 0 0) (fun i => L.getD i rgD) 0) := Lib.hid ⟨W4.out, fun i hi => by omega, fun i k h1 h2 => by omega⟩
          have HTB : Hid (w.heap.size < w3.heap.size) := Lib.hid T3.out.lt
          clear hown hgrow B4 W4 T3 U3
          generalize w3.heap.size = N at G4 HZ4 HN3 HTB ⊢
          go_wp2_with fail
          go_loopw [36] (fun iv wr => ∃ (j : Nat) (f : Nat → Value), j ≤ L.length ∧ iv = .int .i64 (j : Int) ∧ Hid (Below w.heap.size w wr) ∧ Hid (RgV wr w.heap.size x (.int .i64 y)) ∧ Hid (Rgs False wr (.slice a L.length c) L) ∧ Hid (N < wr.heap.size) ∧ Hid (ToG wr N L.length f (fun i => L.getD i rgD) j)) (fun iv _ => L.length - (intOf iv).toNat)
          case atStart => exact ⟨0, _, Nat.zero_le _, rfl, U4, T4, V4, HZ4, G4⟩
          case round =>
            obtain ⟨j, f, hj, rfl, HB, HTk, HRg, HZ, HG2⟩ := hrel
            by_cases hlt : j < L.length
            · have hlt' : (j : Int) < (L.length : Int) := by omega
              obtain ⟨a', c', he, _, hcx⟩ := HRg.out
              obtain ⟨g, o, ha, hc⟩ := hcx (by rintro rfl; simp at hlt)
              injection he with he1 he2 he3
              subst he1
              subst he3
              clear he2
              subst ha
              obtain ⟨s, hr⟩ := hc j hlt
              clear hc
              have hbd := HLN.out _ (takeRg L j hlt).2
              obtain ⟨r, hre⟩ : ∃ r, L.getD j rgD = r := ⟨_, rfl⟩
              rw [hre] at hr hbd
              have HRE := Lib.hid hre
              clear hre
              obtain ⟨n, m⟩ := r
              obtain ⟨e0, e1, hts, _⟩ := hr
              simp only at e0 e1 hbd hts
              obtain ⟨av, cv, rfl⟩ : ∃ av cv, s = .slice av m.length cv := by obtain ⟨_, _, av, cv, e, _⟩ := hts; exact ⟨av, cv, e⟩
              have U5 : Below wr.heap.size wr (wr.alloc (.cells #[.int .i64 n, .slice av m.length cv] 28)) := (Below.refl _ _).alloc (Nat.le_refl _) _
              have CC := Lib.hid (copyreg_any n _ m (wr.alloc (.cells #[.int .i64 n, .slice av m.length cv] 28)) (hts.below U5) hbd)
              have UU := Lib.hid U5
              clear U5 hts
              go_wp2_with fail
              refine CC.out.mono ?_
              rintro e w5 ⟨v5, rfl, hO5, hb5⟩
              have hB5 : Below wr.heap.size wr w5 := UU.out.trans (hb5.mono UU.out.size)
              have HB5 := Lib.hid hB5
              have HU5 := Lib.hid (HB.out.trans (hB5.mono HB.out.size))
              have hbs : wr.heap.size ≤ (wr.alloc (.cells #[.int .i64 n, .slice av m.length cv] 28)).heap.size := UU.out.size
              have HP := Lib.hid ((HG2.out.below hB5).put (k := j) (m := j + 1) (r := (n, m)) hlt (fun i hi => by omega) (Nat.lt_of_lt_of_le HZ.out hbs) hO5 (fun i hi q hq => Nat.lt_of_lt_of_le (HG2.out.lt i hi q hq) hbs))
              obtain ⟨a5, c5, rfl⟩ := ownsRow_shape hO5
              obtain ⟨⟨u0, d0⟩, f0⟩ := HG2.out.wr.below hB5 (j * 2) (by omega)
              obtain ⟨⟨u1, d1⟩, f1⟩ := HG2.out.wr.below hB5 (j * 2 + 1) (by omega)
              have hNw : Hid (w.heap.size ≤ N) := Lib.hid (by have := HTB.out; omega)
              have KB := Lib.hid ((HU5.out.setCell (p := ⟨N, j * 2, none⟩) hNw.out (.int .i64 n)).setCell (p := ⟨N, j * 2 + 1, none⟩) hNw.out (.slice a5 m.length c5))
              have KT := Lib.hid (((HTk.out.below hB5).far (c := N) (i := j * 2) (v := .int .i64 n) (by have := HTB.out; omega)).far (c := N) (i := j * 2 + 1) (v := .slice a5 m.length c5) (by have := HTB.out; omega))
              have KV := Lib.hid (HV.out.below KB.out)
              have KZ : Hid (N < ((w5.setCell ⟨N, j * 2, none⟩ (.int .i64 n)).setCell ⟨N, j * 2 + 1, none⟩ (.slice a5 m.length c5)).heap.size) := Lib.hid (by have := HZ.out; have := hB5.size; simp; omega)
              have KG : Hid (ToG ((w5.setCell ⟨N, j * 2, none⟩ (.int .i64 n)).setCell ⟨N, j * 2 + 1, none⟩ (.slice a5 m.length c5)) N L.length (fun i => if i = j then .slice a5 m.length c5 else f i) (fun i => L.getD i rgD) (j + 1)) := Lib.hid (HP.out.weak (Nat.le_refl _) (fun i hi => by
                by_cases e : i = j
                · subst e; simp only [if_pos]; exact HRE.out
                · simp only [if_neg e]))
              clear hB5 hbs HP hO5 hb5 e0 e1
              go_wp2_with fail
              go_roundw
              case rel => exact ⟨j + 1, _, by omega, by go_num, KB, KT, KV, KZ, KG⟩
              case measure => simp [intOf]; omega
            · have hlt' : ¬ (j : Int) < (L.length : Int) := by omega
              have hjl : j = L.length := by omega
              subst hjl
              obtain ⟨t0, t1⟩ := HTk.out
              have CH := Lib.hid (ihome_any (L.length : Int) x y wr)
              obtain ⟨hm, hhm⟩ : ∃ hm, home (L.length : Int) (x, y) = hm := ⟨_, rfl⟩
              rw [hhm] at CH
              have HHM := Lib.hid hhm
              clear hhm
              go_wp2_with fail
              refine CH.out.mono ?_
              rintro e w6 ⟨rfl, hb6⟩
              have HB6 := Lib.hid (HB.out.trans (hb6.mono HB.out.size))
              have HTk6 := Lib.hid (HTk.out.below hb6)
              have HRg6 := Lib.hid (HRg.out.below hb6)
              have HG6 := Lib.hid (HG2.out.below hb6)
              have HZ6 : Hid (N < w6.heap.size) := Lib.hid (Nat.lt_of_lt_of_le HZ.out hb6.size)
              clear hb6 HB HTk HRg HZ HG2 t0 t1
              by_cases hh : (p : Int) = hm
              · have HR := Lib.hid (stry_home HG.out (hh.trans HHM.out.symm))
                have d3 : ((p : Int) != hm) = false := by rw [bne_eq_false_iff_eq]; exact hh
                have htn : (p : Int).toNat = p := by omega
                rw [htn] at HR
                clear hh htn
                obtain ⟨a', c', he, _, hcx⟩ := HRg6.out
                obtain ⟨g, o, ha, hc⟩ := hcx (by rintro rfl; simp at hp)
                injection he with he1 he2 he3
                subst he1
                subst he3
                clear he2
                subst ha
                obtain ⟨s, hr⟩ := hc p hp
                clear hc hcx
                have hbd := HLN.out _ (takeRg L p hp).2
                have hok : Hid (regok (L.getD p rgD)) := Lib.hid (HK.out.2 _ (takeRg L p hp).2)
                obtain ⟨r, hre⟩ : ∃ r, L.getD p rgD = r := ⟨_, rfl⟩
                rw [hre] at hr hbd hok HR
                clear hre
                obtain ⟨n, m⟩ := r
                obtain ⟨e0, e1, hts, _⟩ := hr
                simp only at e0 e1 hbd hts
                obtain ⟨av, cv, rfl⟩ : ∃ av cv, s = .slice av m.length cv := by obtain ⟨_, _, av, cv, e, _⟩ := hts; exact ⟨av, cv, e⟩
                have HTS := Lib.hid hts
                clear hts
                have HY := Lib.hid (rtryv_yes (r := (n, m)) (t := (x, y)) ⟨hok.out, HT.out⟩)
                obtain ⟨m8, hm8⟩ : ∃ m8, (rtry (n, m) (x, y)).1 = m8 := ⟨_, rfl⟩
                obtain ⟨q8, hq8⟩ : ∃ q8, (rtry (n, m) (x, y)).2 = q8 := ⟨_, rfl⟩
                rw [hm8, hq8] at HY HR
                clear hm8 hq8
                obtain ⟨t0, t1⟩ := HTk6.out
                have KS := Lib.hid (fun (W : World) (hb : Below w6.heap.size w6 W) => And.intro ((hb.cell (World.block_lt_of_cell? _ _ e0)).trans e0) (And.intro ((hb.cell (World.block_lt_of_cell? _ _ e1)).trans e1) (And.intro ((hb.cell (World.block_lt_of_cell? _ _ t0)).trans t0) ((hb.cell (World.block_lt_of_cell? _ _ t1)).trans t1))))
                have BA : Hid (Below w6.heap.size w6 w6.drew) := Lib.hid (Below.refl _ _).drew
                have BB : Hid (Below w6.heap.size w6 (w6.alloc (.cells #[.int .i64 0, .slice none 0 0] 28)).drew) := Lib.hid ((Below.refl _ _).alloc (Nat.le_refl _) _).drew
                have C1 := Lib.hid (itry_any n x y _ m w6.drew (HTS.out.below BA.out) (by omega))
                have C2 := Lib.hid (itry_any n x y _ m (w6.alloc (.cells #[.int .i64 0, .slice none 0 0] 28)).drew (HTS.out.below BB.out) (by omega))
                rw [HY.out] at C1 C2
                have kA := KS.out _ BA.out
                have kB := KS.out _ BB.out
                have ZB := Lib.hid ((RgV.new w6 0 (.slice none 0 0) 28).below (Below.refl _ _).drew)
                have ZF := Lib.hid ((Soft.new w6 #[.int .i64 0, .slice none 0 0] 28).below (Below.refl _ _).drew (by simp))
                have hsB : Hid (w6.heap.size < (w6.alloc (.cells #[.int .i64 0, .slice none 0 0] 28)).drew.heap.size) := Lib.hid (by simp)
                have hpi : (p : Int) < (L.length : Int) := by omega
                go_upto_region 11 with fail
                go_region_held3 (fun W => W.cell? ⟨g, o + p * 2, none⟩ = some (.int .i64 n) ∧ W.cell? ⟨g, o + p * 2 + 1, none⟩ = some (.slice av m.length cv) ∧ W.cell? ⟨w.heap.size, 0, none⟩ = some (.int .i64 x) ∧ W.cell? ⟨w.heap.size, 1, none⟩ = some (.int .i64 y)) (with_reducible first | assumption | exact kA | exact kB | exact k8 | exact k8a | exact k9)
                  ((first
                    | (go_at_call 19; (with_reducible refine C1.out.mono ?_); rintro e w8 ⟨v8, rfl, hO8, hb8⟩; obtain ⟨a8, c8, rfl⟩ := ownsRow_shape hO8; have B8 := Lib.hid (BA.out.trans hb8); have k8 := KS.out _ B8.out; have k8a := KS.out _ (B8.out.alloc B8.out.size (.cells #[.int .i64 0, .slice none 0 0] 28)); have BE := Lib.hid (B8.out.alloc B8.out.size (.cells #[.int .i64 n, .slice a8 m8.length c8] 28)); have k9 := KS.out _ BE.out; have XV := Lib.hid (RgV.new w8 n (.slice a8 m8.length c8) 28); have OV : Hid (OwnTc (w8.alloc (.cells #[.int .i64 n, .slice a8 m8.length c8] 28)) w6.heap.size (.slice a8 m8.length c8) m8) := Lib.hid (OwnTc.below hO8 ((Below.refl _ _).alloc (Nat.le_refl _) _)))
                    | (go_at_call 19; (with_reducible refine C2.out.mono ?_); rintro e w8 ⟨v8, rfl, hO8, hb8⟩; obtain ⟨a8, c8, rfl⟩ := ownsRow_shape hO8; have B8 := Lib.hid (BB.out.trans (hb8.mono (Nat.le_of_lt hsB.out))); have k8 := KS.out _ B8.out; have Z8 := ZB.out.below hb8; have G8 := ZF.out.below hb8 ZB.out.lt; have z0 := Z8.c0; have z1 := Z8.c1; have f0 := G8 0; have f1 := G8 1; have BE := Lib.hid ((B8.out.setCell (p := ⟨w6.heap.size, 0, none⟩) (Nat.le_refl _) (.int .i64 n)).setCell (p := ⟨w6.heap.size, 1, none⟩) (Nat.le_refl _) (.slice a8 m8.length c8)); have k9 := KS.out _ BE.out; have XV := Lib.hid ((Z8.set0 n).set1 (.slice a8 m8.length c8)); have hvx : (Value.slice a8 m8.length c8).ownBlock ≠ some w6.heap.size := (fun e => by have := (World.ownsRow.lt hO8 _ e).1; have := hsB.out; omega); have OV := Lib.hid (OwnTc.lower (OwnTc.far (i := 1) (u := .slice a8 m8.length c8) (OwnTc.far (i := 0) (u := .int .i64 n) hO8 hvx) hvx) (Nat.le_of_lt hsB.out)))))
                all_goals
                  have HP := Lib.hid ((HG6.out.below BE.out).put (k := p) (m := L.length) (r := (n, m8)) hp (fun i hi => by omega) HZ6.out OV.out HG6.out.lt)
                  have hNw : Hid (w.heap.size ≤ N) := Lib.hid (by have := HTB.out; omega)
                  have BF := Lib.hid (((HB6.out.trans (BE.out.mono HB6.out.size)).setCell (p := ⟨N, p * 2, none⟩) hNw.out (.int .i64 n)).setCell (p := ⟨N, p * 2 + 1, none⟩) hNw.out (.slice a8 m8.length c8))
                  obtain ⟨x0, x1⟩ := XV.out
                  obtain ⟨⟨u0, d0⟩, g0⟩ := HG6.out.wr.below BE.out (p * 2) (by omega)
                  obtain ⟨⟨u1, d1⟩, g1⟩ := HG6.out.wr.below BE.out (p * 2 + 1) (by omega)
                  clear kA kB k8 k9 e0 e1 t0 t1
                  go_wp2_with fail
                  go_ret2
                  rw [HR.out]
                  refine ⟨_, rfl, BF.out, .inr ⟨N, L.length, fun i => if i = p then .slice a8 m8.length c8 else f i, by have := HN3.out; omega, by simp, by simp, ?_⟩⟩
                  show ToG _ N (L.set p (n, m8)).length _ _ (L.set p (n, m8)).length
                  rw [List.length_set]
                  exact HP.out.weak (Nat.le_refl _) (fun i hi => by rw [getD_setR L p i _ hp])
              · have HR := Lib.hid (stry_away HG.out (fun e => hh (e.trans HHM.out)))
                have d3 : ((p : Int) != hm) = true := by rw [bne_iff_ne]; exact hh
                clear hh
                go_wp2_with fail
                go_ret2
                rw [HR.out]
                exact ⟨_, rfl, HB6.out, .inr ⟨N, L.length, f, by have := HN3.out; omega, Nat.le_refl _, rfl, HG6.out⟩⟩
    · rw [decide_eq_false k2]
      have HR := Lib.hid (stry_no (L := L) (i := at') (t := (x, y)) fun h => k2 h.2.1)
      clear k2
      go_wp2_with fail
      go_ret2
      rw [HR.out]
      exact ⟨_, rfl, U3.out, .inl ⟨rfl, rfl⟩⟩
  · rw [decide_eq_false k1]
    have HR := Lib.hid (stry_no (L := L) (i := at') (t := (x, y)) fun h => k1 h.1)
    clear k1
    go_wp2_with fail
    go_ret2
    rw [HR.out]
    exact ⟨_, rfl, U2.out, .inl ⟨rfl, rfl⟩⟩

end Go.Proofs.Ytlhjhdlpejpooab
