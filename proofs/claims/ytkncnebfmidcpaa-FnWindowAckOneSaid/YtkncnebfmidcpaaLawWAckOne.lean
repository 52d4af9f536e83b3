/- The law FnWindowAckOne: the walk. -/
import Derived.Test.YtkncnebfmidcpaaDrWi
import Derived.Test.YtkncnebfmidcpaaWImp
import Derived.Test.YtkncnebfmidcpaaWSw
import Derived.Test.YtkncnebfmidcpaaWLaw
import Derived.Test.YtkncnebfmidcpaaSameW
import Derived.BigQuiet
import Derived.Deep.QuietTactic
import Derived.Deep.Draws
namespace Go.Proofs.Ytkncnebfmidcpaa
open Go.RowKit
set_option linter.unusedVariables false
set_option linter.unusedSimpArgs false

set_option maxRecDepth 100000 in
set_option maxHeartbeats 8000000 in
theorem wackone_walk (a : Option Addr) (len cap : Nat) (zs : List Int) (w : World) (h : IsRow .u8 w a len cap zs) :
    Calls Try.prog 7 #[.slice a len cap] w fun e w' => e = .returned (.bool true) ∧ Below w.heap.size w w' := by
  have H := Lib.hid h
  clear h
  by_cases hl : 1048576 < len
  · go_enter Try.func7, Try.ntmps7
    go_wp2
    go_ret
    exact ⟨rfl, Below.refl _ _⟩
  go_enter Try.func7, Try.ntmps7
  go_wp2_with fail
  refine (drack_any a len cap zs w H.out).mono ?_
  rintro e w1 ⟨v, l, i, rfl, hw, hl8, hne, hb1⟩
  have W1 := Lib.hid hw
  have B1 := Lib.hid hb1
  have CI := Lib.hid (iwa_any v l i w1 hw (by omega))
  have CS : Hid (∀ W, Below w1.heap.size w1 W → Calls Try.prog 19 #[v, .int .i64 i] W (GotWs W (wackv l i) (decide (wat l i)))) := Lib.hid fun W hb => swa_any v l i W (hw.below hb) (by omega)
  obtain ⟨r, hr⟩ : ∃ r, wackv l i = r := ⟨_, rfl⟩
  rw [hr] at CI CS
  have hrl : r.length ≤ 8 := by
    rw [← hr]; unfold wackv wack
    split
    · rw [List.length_set]; exact hl8
    · simp
  obtain ⟨ax, cx, rfl, _, hg⟩ := hw
  clear hb1 hne H
  by_cases hat : wat l i
  case neg =>
    rw [decide_eq_false hat] at CI CS
    clear hr hat
    go_wp2_with fail
    refine CI.out.mono ?_
    rintro e w2 ⟨v2, rfl, hO2, _, hb2⟩
    have CT := Lib.hid (CS.out w2 hb2)
    have U2 := Lib.hid hO2.pks
    have B2 := Lib.hid (B1.out.trans (hb2.mono B1.out.size))
    obtain ⟨a2, c2, rfl⟩ := hO2.shape
    clear hb2 CS CI hO2
    go_wp2_with fail
    refine CT.out.mono ?_
    rintro e w3 ⟨v3, rfl, hO3, _, hb3⟩
    have V3 := Lib.hid hO3.pks
    have U3 := Lib.hid (U2.out.below hb3)
    have B3 := Lib.hid (B2.out.trans (hb3.mono B2.out.size))
    obtain ⟨a3, c3, rfl⟩ := hO3.shape
    clear hb3 CT U2 B2 hO3
    go_wp2_with fail
    refine (samew_any _ _ r w3 U3.out V3.out (by omega)).mono ?_
    rintro e w4 ⟨rfl, hb4⟩
    have B4 := Lib.hid (B3.out.trans (hb4.mono B3.out.size))
    have CQ := Lib.hid (samew_any _ _ r w4 (U3.out.below hb4) (V3.out.below hb4) (by omega))
    clear hb4 B3 U3 V3
    go_wp2_with fail
    refine CQ.out.mono ?_
    rintro e w5 ⟨rfl, hb5⟩
    have B5 := Lib.hid (B4.out.trans (hb5.mono B4.out.size))
    clear hb5 B4 CQ
    go_wp2_with fail
    go_ret
    exact ⟨rfl, B5.out⟩
  rw [decide_eq_true hat] at CI CS
  obtain ⟨k, rfl⟩ := Int.eq_ofNat_of_zero_le hat.2.1
  have hk : k < l.length := by have := hat.2; omega
  have HR : Hid (r = wack l k) := Lib.hid (by rw [← hr]; exact if_pos hat)
  have HAT := Lib.hid hat
  have hl4 : l.length ≤ 4 := hat.1.1.2
  have hrl3 : Hid (r.length = l.length) := Lib.hid (by rw [HR.out]; unfold wack; rw [List.length_set])
  obtain ⟨g, o, rfl, _⟩ := hg (by rintro rfl; simp at hk)
  have HP : Hid (wok1 (l.getD k wdD)) := Lib.hid (hat.1.2 _ (takeW l k hk).2)
  have hkl : (k : Int) < (l.length : Int) := by omega
  clear hr hat hg
  go_wp2_with fail
  refine CI.out.mono ?_
  rintro e w2 ⟨v2, rfl, hO2, hn2, hb2⟩
  have CT := Lib.hid (CS.out w2 hb2)
  have U2 := Lib.hid hO2.pks
  have B2 := Lib.hid hb2
  obtain ⟨g2, c2, rfl, _⟩ := OwnW.open hO2 (hn2 rfl)
  clear hb2 CS CI hO2 hn2
  go_wp2_with fail
  refine CT.out.mono ?_
  rintro e w3 ⟨v3, rfl, hO3, hn3, hb3⟩
  have V3 := Lib.hid hO3.pks
  have U3 := Lib.hid (U2.out.below hb3)
  have B3 := Lib.hid (B2.out.trans (hb3.mono B2.out.size))
  obtain ⟨a3, c3, rfl⟩ := hO3.shape
  clear hb3 CT U2 B2 hO3 hn3
  go_wp2_with fail
  refine (samew_any _ _ r w3 U3.out V3.out (by omega)).mono ?_
  rintro e w4 ⟨rfl, hb4⟩
  have X4 := Lib.hid (B3.out.trans (hb4.mono B3.out.size))
  have B4 := Lib.hid (B1.out.trans (X4.out.mono B1.out.size))
  have L4 := Lib.hid (W1.out.below X4.out)
  have R4' := Lib.hid (U3.out.below hb4)
  clear hb4 B3 U3 V3 X4 W1 B1
  rw [hrl3.out]
  rw [hrl3.out] at R4'
  clear hrl
  go_wp2_with fail
  go_loopw [9] (fun iv wr => ∃ j : Nat, j ≤ l.length ∧ iv = .int .i64 (j : Int) ∧ Hid (Below w4.heap.size w4 wr)) (fun iv _ => l.length - (intOf iv).toNat)
  case atStart => exact ⟨0, Nat.zero_le _, rfl, Below.refl _ _⟩
  case round =>
    obtain ⟨j, hj, rfl, HB⟩ := hrel
    by_cases hlt : j < l.length
    · have hlt' : (j : Int) < (l.length : Int) := by omega
      by_cases hjk : j = k
      · subst hjk
        go_wp2_with fail
        go_quiet (fail)
        have HB2 := Lib.hid (below_drewN' HB.out nq)
        go_wp2_with fail
        go_roundw
        case rel => exact ⟨j + 1, by omega, by go_num, HB2⟩
        case measure => simp [intOf]; omega
      · have hne1 : ((j : Int) != (k : Int)) = true := by rw [bne_iff_ne]; omega
        have CJ := (L4.out.below HB.out).at_ hlt
        have CK := (R4'.out.below HB.out).at_ (i := j) (by rw [hrl3.out]; exact hlt)
        rw [show r.getD j wdD = l.getD j wdD by rw [HR.out]; unfold wack; rw [getD_set_w _ _ _ _ hk, if_neg (fun e => hjk e.symm)]] at CK
        generalize l.getD j wdD = p at CJ CK
        obtain ⟨x, y, z, t⟩ := p
        obtain ⟨c0, c1, c2', c3'⟩ := CJ
        obtain ⟨d0, d1, d2, d3⟩ := CK
        simp only [Nat.zero_add] at c0 c1 c2' c3' d0 d1 d2 d3
        go_wp2_with fail
        go_quiet (fail)
        have HB2 := Lib.hid (below_drewN' HB.out nq)
        go_wp2_with fail
        go_roundw
        case rel => exact ⟨j + 1, by omega, by go_num, HB2⟩
        case measure => simp [intOf]; omega
    · have hlt' : ¬ (j : Int) < (l.length : Int) := by omega
      have B9 := Lib.hid (B4.out.trans (HB.out.mono B4.out.size))
      have HQ : Hid (r.getD k wdD = ack1 (winc l (l.getD k wdD)) (l.getD k wdD)) := Lib.hid (by rw [HR.out]; unfold wack; rw [getD_set_w _ _ _ _ hk, if_pos rfl])
      have CL := Lib.hid (L4.out.at_ hk)
      have CR := Lib.hid (R4'.out.at_ (i := k) (by rw [hrl3.out]; exact hk))
      generalize winc l (l.getD k wdD) = n at HQ
      generalize r.getD k wdD = p2 at CR HQ
      generalize l.getD k wdD = p at CL HP HQ
      have HS := ack1_size (n := n) HP.out
      rw [← HQ.out] at HS
      obtain ⟨x, y, z, t⟩ := p
      obtain ⟨x2, y2, z2, t2⟩ := p2
      obtain ⟨s1, s2, s3, s4⟩ := HS
      simp only at s1 s2 s3 s4
      have e1 := s1
      have e2 := s2
      subst e1 e2
      have x1 := HP.out.1
      simp only at x1
      have w1 : wrap64 (x + 1) = x + 1 := by unfold wrap64; omega
      have dd3 := decide_eq_true s3
      have dd4 := decide_eq_true s4
      obtain ⟨c0, c1, c2', c3'⟩ := CL.out.below HB.out CL.out.lt
      obtain ⟨d0, d1, d2, d3⟩ := CR.out.below HB.out CR.out.lt
      simp only [Nat.zero_add] at c0 c1 c2' c3' d0 d1 d2 d3
      clear HQ s1 s2
      go_wp2_with fail
      go_quiet (fail)
      have B10 := Lib.hid (below_drewN' B9.out nq)
      go_wp2_with fail
      go_ret
      exact ⟨rfl, B10.out⟩
end Go.Proofs.Ytkncnebfmidcpaa
