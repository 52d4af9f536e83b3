/- The law FnWindowLosses: the walk. -/
import Derived.Test.YtkncnebfmidcpaaDrWi
import Derived.Test.YtkncnebfmidcpaaWImp
import Derived.Test.YtkncnebfmidcpaaWSw
import Derived.Test.YtkncnebfmidcpaaWLaw
import Derived.Test.YtkncnebfmidcpaaSameW
import Derived.BigQuiet
import Derived.Deep.QuietTactic
import Derived.Deep.Draws
namespace Go.Proofs.Ytkncnebfmidcpaa
open Go.RowKit
set_option linter.unusedVariables false
set_option linter.unusedSimpArgs false

set_option maxRecDepth 100000 in
set_option maxHeartbeats 8000000 in
theorem wlosses_walk (a : Option Addr) (len cap : Nat) (zs : List Int) (w : World) (h : IsRow .u8 w a len cap zs) :
    Calls Try.prog 13 #[.slice a len cap] w fun e w' => e = .returned (.bool true) ∧ Below w.heap.size w w' := by
  have H := Lib.hid h
  clear h
  by_cases hl : 1048576 < len
  · go_enter Try.func13, Try.ntmps13
    go_wp2
    go_ret
    exact ⟨rfl, Below.refl _ _⟩
  go_enter Try.func13, Try.ntmps13
  go_wp2_with fail
  refine (drloss_any a len cap zs w H.out).mono ?_
  rintro e w1 ⟨v, l, i, rfl, hw, hl8, hne, hb1⟩
  have W1 := Lib.hid hw
  have B1 := Lib.hid hb1
  have CI := Lib.hid (iwl_any v l i w1 hw (by omega))
  have CS : Hid (∀ W, Below w1.heap.size w1 W → Calls Try.prog 23 #[v, .int .i64 i] W (GotWs W (wlossv l i) (decide (wat l i)))) := Lib.hid fun W hb => swl_any v l i W (hw.below hb) (by omega)
  obtain ⟨r, hr⟩ : ∃ r, wlossv l i = r := ⟨_, rfl⟩
  rw [hr] at CI CS
  have hrl : r.length ≤ 8 := by
    rw [← hr]; unfold wlossv wloss
    split
    · rw [List.length_set]; exact hl8
    · simp
  obtain ⟨ax, cx, rfl, _, hg⟩ := hw
  clear hb1 hne H
  by_cases hat : wat l i
  case neg =>
    rw [decide_eq_false hat] at CI CS
    clear hr hat
    go_wp2_with fail
    refine CI.out.mono ?_
    rintro e w2 ⟨v2, rfl, hO2, _, hb2⟩
    have CT := Lib.hid (CS.out w2 hb2)
    have U2 := Lib.hid hO2.pks
    have B2 := Lib.hid (B1.out.trans (hb2.mono B1.out.size))
    obtain ⟨a2, c2, rfl⟩ := hO2.shape
    clear hb2 CS CI hO2
    go_wp2_with fail
    refine CT.out.mono ?_
    rintro e w3 ⟨v3, rfl, hO3, _, hb3⟩
    have V3 := Lib.hid hO3.pks
    have U3 := Lib.hid (U2.out.below hb3)
    have B3 := Lib.hid (B2.out.trans (hb3.mono B2.out.size))
    obtain ⟨a3, c3, rfl⟩ := hO3.shape
    clear hb3 CT U2 B2 hO3
    go_wp2_with fail
    refine (samew_any _ _ r w3 U3.out V3.out (by omega)).mono ?_
    rintro e w4 ⟨rfl, hb4⟩
    have B4 := Lib.hid (B3.out.trans (hb4.mono B3.out.size))
    have CQ := Lib.hid (samew_any _ _ r w4 (U3.out.below hb4) (V3.out.below hb4) (by omega))
    clear hb4 B3 U3 V3
    go_wp2_with fail
    refine CQ.out.mono ?_
    rintro e w5 ⟨rfl, hb5⟩
    have B5 := Lib.hid (B4.out.trans (hb5.mono B4.out.size))
    clear hb5 B4 CQ
    go_wp2_with fail
    go_ret
    exact ⟨rfl, B5.out⟩
  rw [decide_eq_true hat] at CI CS
  obtain ⟨k, rfl⟩ := Int.eq_ofNat_of_zero_le hat.2.1
  have hk : k < l.length := by have := hat.2; omega
  have HR : Hid (r = wloss l k) := Lib.hid (by rw [← hr]; exact if_pos hat)
  have HAT := Lib.hid hat
  have hl4 : l.length ≤ 4 := hat.1.1.2
  have hrl3 : Hid (r.length = l.length) := Lib.hid (by rw [HR.out]; unfold wloss; rw [List.length_set])
  obtain ⟨g, o, rfl, _⟩ := hg (by rintro rfl; simp at hk)
  have HP : Hid (wok1 (l.getD k wdD)) := Lib.hid (hat.1.2 _ (takeW l k hk).2)
  have hkl : (k : Int) < (l.length : Int) := by omega
  clear hr hat hg
  go_wp2_with fail
  refine CI.out.mono ?_
  rintro e w2 ⟨v2, rfl, hO2, hn2, hb2⟩
  have CT := Lib.hid (CS.out w2 hb2)
  have U2 := Lib.hid hO2.pks
  have B2 := Lib.hid hb2
  obtain ⟨g2, c2, rfl, _⟩ := OwnW.open hO2 (hn2 rfl)
  clear hb2 CS CI hO2 hn2
  go_wp2_with fail
  refine CT.out.mono ?_
  rintro e w3 ⟨v3, rfl, hO3, hn3, hb3⟩
  have V3 := Lib.hid hO3.pks
  have U3 := Lib.hid (U2.out.below hb3)
  have B3 := Lib.hid (B2.out.trans (hb3.mono B2.out.size))
  obtain ⟨a3, c3, rfl⟩ := hO3.shape
  clear hb3 CT U2 B2 hO3 hn3
  go_wp2_with fail
  refine (samew_any _ _ r w3 U3.out V3.out (by omega)).mono ?_
  rintro e w4 ⟨rfl, hb4⟩
  have X4 := Lib.hid (B3.out.trans (hb4.mono B3.out.size))
  have B4 := Lib.hid (B1.out.trans (X4.out.mono B1.out.size))
  have L4 := Lib.hid (W1.out.below X4.out)
  have R4' := Lib.hid (U3.out.below hb4)
  clear hb4 B3 U3 V3 X4 W1 B1
  rw [hrl3.out]
  rw [hrl3.out] at R4'
  clear hrl
  have HQ : Hid (r.getD k wdD = loss1 (l.getD k wdD)) := Lib.hid (by rw [HR.out]; unfold wloss; rw [getD_set_w _ _ _ _ hk, if_pos rfl])
  have hs0 := HP.out.1
  obtain ⟨s0, hs⟩ : ∃ s0, (l.getD k wdD).1 = s0 := ⟨_, rfl⟩
  rw [hs] at hs0
  have HS0 : Hid (1 ≤ s0 ∧ s0 ≤ 64) := Lib.hid hs0
  have HB0 : Hid ((r.getD k wdD).1 = hv 1 s0 ∧ (r.getD k wdD).2.1 = hv 1 s0) := Lib.hid (by rw [HQ.out]; simp only [loss1, hv]; rw [hs]; exact ⟨rfl, rfl⟩)
  have HK0 : Hid (wok r ∧ r.length = l.length) := Lib.hid ⟨by rw [HR.out]; exact wloss_ok HAT.out, hrl3.out⟩
  have hv0 : (Value.slice (some ⟨g2, 0, none⟩) l.length c2) = .slice (some ⟨g2, 0, none⟩) r.length c2 := by rw [hrl3.out]
  have HV0 := Lib.hid hv0
  clear hs hs0 HQ hv0
  go_wp2_with fail
  go_loopw [9, 10] (fun sv iv wr => ∃ (j : Nat) (m : List Wd) (av : Option Addr) (cv : Nat), j ≤ 6 ∧ iv = .int .i64 (j : Int) ∧ sv = .slice av m.length cv ∧ Hid (Wds wr (.slice av m.length cv) m) ∧ Hid (wok m ∧ m.length = l.length) ∧ Hid ((m.getD k wdD).1 = hv (j + 1) s0 ∧ (m.getD k wdD).2.1 = hv (j + 1) s0) ∧ Hid (Below w.heap.size w wr)) (fun _ iv _ => 6 - (intOf iv).toNat)
  case atStart => exact ⟨0, r, some ⟨g2, 0, none⟩, c2, by omega, rfl, HV0.out, by rw [← HV0.out]; exact R4', HK0, HB0, B4⟩
  case round =>
    obtain ⟨j, m, av, cv, hj, rfl, rfl, HM, HK, HH, HB⟩ := hrel
    have hkm : k < m.length := by have := HK.out.2; omega
    by_cases hlt : j < 6
    · have hlt' : (j : Int) < 6 := by omega
      have hatm : wat m (k : Int) := ⟨HK.out.1, by omega, by omega⟩
      have CW := Lib.hid (iwl_any _ m (k : Int) wr HM.out (by have := HK.out.1.1; omega))
      rw [decide_eq_true hatm, show wlossv m (k : Int) = wloss m k from if_pos hatm] at CW
      have HK2 : Hid (wok (wloss m k) ∧ (wloss m k).length = l.length) := Lib.hid ⟨wloss_ok hatm, by unfold wloss; rw [List.length_set]; exact HK.out.2⟩
      have HH2 : Hid (((wloss m k).getD k wdD).1 = hv (j + 1 + 1) s0 ∧ ((wloss m k).getD k wdD).2.1 = hv (j + 1 + 1) s0) := Lib.hid (by
        unfold wloss
        rw [getD_set_w _ _ _ _ hkm, if_pos rfl]
        simp only [loss1, hv]
        rw [HH.out.1]
        exact ⟨rfl, rfl⟩)
      clear hatm
      generalize wloss m k = m2 at CW HK2 HH2
      go_wp2_with fail
      refine CW.out.mono ?_
      rintro e w5 ⟨v5, rfl, hO5, _, hb5⟩
      have X5 := Lib.hid hO5.pks
      have B5 := Lib.hid (HB.out.trans (hb5.mono HB.out.size))
      obtain ⟨a5, c5, rfl⟩ := hO5.shape
      clear hb5 hO5 CW
      go_wp2_with fail
      go_roundw
      case rel => exact ⟨j + 1, m2, a5, c5, by omega, by go_num, rfl, X5, HK2, HH2, B5⟩
      case measure => simp [intOf]; omega
    · have hlt' : ¬ (j : Int) < 6 := by omega
      have hj6 : j + 1 = 7 := by omega
      rw [hj6, hv_six HS0.out] at HH
      have hkm' : (k : Int) < (m.length : Int) := by omega
      obtain ⟨gm, om, rfl⟩ : ∃ gm om, av = some ⟨gm, om, none⟩ := by
        obtain ⟨a', c', e, _, kk⟩ := HM.out
        obtain ⟨g', o', e2, _⟩ := kk (by rintro rfl; simp at hkm)
        simp only [Value.slice.injEq] at e
        exact ⟨g', o', by rw [e.1, e2]⟩
      have CM := HM.out.at_ hkm
      generalize m.getD k wdD = p at CM HH
      obtain ⟨x, y, z, t⟩ := p
      obtain ⟨e1, e2⟩ := HH.out
      simp only at e1 e2
      subst e1 e2
      obtain ⟨d0, d1, d2, d3⟩ := CM
      simp only at d0 d1
      clear hj6
      go_wp2_with fail
      go_ret
      exact ⟨rfl, HB.out⟩
end Go.Proofs.Ytkncnebfmidcpaa
