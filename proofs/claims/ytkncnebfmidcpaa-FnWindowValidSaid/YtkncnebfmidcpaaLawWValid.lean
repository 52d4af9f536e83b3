/- The law FnWindowValid: the walk. -/
import Derived.Test.YtkncnebfmidcpaaDrWi
import Derived.Test.YtkncnebfmidcpaaWImp
import Derived.Test.YtkncnebfmidcpaaWSw
import Derived.Test.YtkncnebfmidcpaaWLaw
import Derived.Test.YtkncnebfmidcpaaSameW
import Derived.BigQuiet
import Derived.Deep.QuietTactic
import Derived.Deep.Draws
namespace Go.Proofs.Ytkncnebfmidcpaa
open Go.RowKit
set_option linter.unusedVariables false
set_option linter.unusedSimpArgs false

set_option maxRecDepth 100000 in
set_option maxHeartbeats 8000000 in
theorem wvalid_walk (a : Option Addr) (len cap : Nat) (zs : List Int) (w : World) (h : IsRow .u8 w a len cap zs) :
    Calls Try.prog 11 #[.slice a len cap] w fun e w' => e = .returned (.bool true) ∧ Below w.heap.size w w' := by
  have H := Lib.hid h
  clear h
  by_cases hl : 1048576 < len
  · go_enter Try.func11, Try.ntmps11
    go_wp2
    go_ret
    exact ⟨rfl, Below.refl _ _⟩
  go_enter Try.func11, Try.ntmps11
  go_wp2_with fail
  refine (drack_any a len cap zs w H.out).mono ?_
  rintro e w1 ⟨v, l, i, rfl, hw, hl8, hne, hb1⟩
  have W1 := Lib.hid hw
  have B1 := Lib.hid hb1
  have CI := Lib.hid (iwa_any v l i w1 hw (by omega))
  have CS : Hid (∀ W, Below w1.heap.size w1 W → Calls Try.prog 19 #[v, .int .i64 i] W (GotWs W (wackv l i) (decide (wat l i)))) := Lib.hid fun W hb => swa_any v l i W (hw.below hb) (by omega)
  obtain ⟨r, hr⟩ : ∃ r, wackv l i = r := ⟨_, rfl⟩
  rw [hr] at CI CS
  have hrl : r.length ≤ 8 := by
    rw [← hr]; unfold wackv wack
    split
    · rw [List.length_set]; exact hl8
    · simp
  obtain ⟨ax, cx, rfl, _, hg⟩ := hw
  clear hb1 hne H
  by_cases hat : wat l i
  case neg =>
    rw [decide_eq_false hat] at CI CS
    clear hr hat
    go_wp2_with fail
    refine CI.out.mono ?_
    rintro e w2 ⟨v2, rfl, hO2, _, hb2⟩
    have CT := Lib.hid (CS.out w2 hb2)
    have U2 := Lib.hid hO2.pks
    have B2 := Lib.hid (B1.out.trans (hb2.mono B1.out.size))
    obtain ⟨a2, c2, rfl⟩ := hO2.shape
    clear hb2 CS CI hO2
    go_wp2_with fail
    refine CT.out.mono ?_
    rintro e w3 ⟨v3, rfl, hO3, _, hb3⟩
    have V3 := Lib.hid hO3.pks
    have U3 := Lib.hid (U2.out.below hb3)
    have B3 := Lib.hid (B2.out.trans (hb3.mono B2.out.size))
    obtain ⟨a3, c3, rfl⟩ := hO3.shape
    clear hb3 CT U2 B2 hO3
    go_wp2_with fail
    refine (samew_any _ _ r w3 U3.out V3.out (by omega)).mono ?_
    rintro e w4 ⟨rfl, hb4⟩
    have B4 := Lib.hid (B3.out.trans (hb4.mono B3.out.size))
    have CQ := Lib.hid (samew_any _ _ r w4 (U3.out.below hb4) (V3.out.below hb4) (by omega))
    clear hb4 B3 U3 V3
    go_wp2_with fail
    refine CQ.out.mono ?_
    rintro e w5 ⟨rfl, hb5⟩
    have B5 := Lib.hid (B4.out.trans (hb5.mono B4.out.size))
    clear hb5 B4 CQ
    go_wp2_with fail
    go_ret
    exact ⟨rfl, B5.out⟩
  rw [decide_eq_true hat] at CI CS
  obtain ⟨k, rfl⟩ := Int.eq_ofNat_of_zero_le hat.2.1
  have hk : k < l.length := by have := hat.2; omega
  have HR : Hid (r = wack l k) := Lib.hid (by rw [← hr]; exact if_pos hat)
  have HAT := Lib.hid hat
  have hl4 : l.length ≤ 4 := hat.1.1.2
  have hrl3 : Hid (r.length = l.length) := Lib.hid (by rw [HR.out]; unfold wack; rw [List.length_set])
  obtain ⟨g, o, rfl, _⟩ := hg (by rintro rfl; simp at hk)
  have HP : Hid (wok1 (l.getD k wdD)) := Lib.hid (hat.1.2 _ (takeW l k hk).2)
  have hkl : (k : Int) < (l.length : Int) := by omega
  clear hr hat hg
  go_wp2_with fail
  refine CI.out.mono ?_
  rintro e w2 ⟨v2, rfl, hO2, hn2, hb2⟩
  have CT := Lib.hid (CS.out w2 hb2)
  have U2 := Lib.hid hO2.pks
  have B2 := Lib.hid hb2
  obtain ⟨g2, c2, rfl, _⟩ := OwnW.open hO2 (hn2 rfl)
  clear hb2 CS CI hO2 hn2
  go_wp2_with fail
  refine CT.out.mono ?_
  rintro e w3 ⟨v3, rfl, hO3, hn3, hb3⟩
  have V3 := Lib.hid hO3.pks
  have U3 := Lib.hid (U2.out.below hb3)
  have B3 := Lib.hid (B2.out.trans (hb3.mono B2.out.size))
  obtain ⟨a3, c3, rfl⟩ := hO3.shape
  clear hb3 CT U2 B2 hO3 hn3
  go_wp2_with fail
  refine (samew_any _ _ r w3 U3.out V3.out (by omega)).mono ?_
  rintro e w4 ⟨rfl, hb4⟩
  have X4 := Lib.hid (B3.out.trans (hb4.mono B3.out.size))
  have B4 := Lib.hid (B1.out.trans (X4.out.mono B1.out.size))
  have L4 := Lib.hid (W1.out.below X4.out)
  have R4' := Lib.hid (U3.out.below hb4)
  clear hb4 B3 U3 V3 X4 W1 B1
  rw [hrl3.out]
  rw [hrl3.out] at R4'
  clear hrl
  have CW := Lib.hid (iwl_any _ l (k : Int) w4 L4.out (by omega))
  rw [decide_eq_true HAT.out, show wlossv l (k : Int) = wloss l k from if_pos HAT.out] at CW
  have V1 : Hid (decide (wok r) = true) := Lib.hid (decide_eq_true (by rw [HR.out]; exact wack_ok HAT.out))
  have V2 : Hid (decide (wok (wloss l k)) = true) := Lib.hid (decide_eq_true (wloss_ok HAT.out))
  have V3 : Hid (decide (wok l) = true) := Lib.hid (decide_eq_true HAT.out.1)
  have hll : Hid ((wloss l k).length ≤ 1048576) := Lib.hid (by unfold wloss; rw [List.length_set]; omega)
  generalize wloss l k = l2 at CW V2 hll
  go_wp2_with fail
  refine CW.out.mono ?_
  rintro e w5 ⟨v5, rfl, hO5, _, hb5⟩
  have X5 := Lib.hid hO5.pks
  have B5 := Lib.hid hb5
  obtain ⟨a5, c5, rfl⟩ := hO5.shape
  clear hb5 hO5 CW
  have K1 := Lib.hid (iwv_any _ r w5 (R4'.out.below B5.out) (by have := hrl3.out; omega))
  rw [V1.out] at K1
  go_wp2_with fail
  refine K1.out.mono ?_
  rintro e w6 ⟨rfl, hb6⟩
  have B6 := Lib.hid (B5.out.trans (hb6.mono B5.out.size))
  have K2 := Lib.hid (iwv_any _ l2 w6 (X5.out.below hb6) hll.out)
  rw [V2.out] at K2
  clear hb6
  go_wp2_with fail
  refine K2.out.mono ?_
  rintro e w7 ⟨rfl, hb7⟩
  have B7 := Lib.hid (B6.out.trans (hb7.mono B6.out.size))
  have K3 := Lib.hid (iwv_any _ l w7 (L4.out.below B7.out) (by omega))
  rw [V3.out] at K3
  clear hb7
  go_wp2_with fail
  refine K3.out.mono ?_
  rintro e w8 ⟨rfl, hb8⟩
  have B8 := Lib.hid (B4.out.trans ((B7.out.trans (hb8.mono B7.out.size)).mono B4.out.size))
  clear hb8
  go_wp2_with fail
  go_ret
  exact ⟨rfl, B8.out⟩
end Go.Proofs.Ytkncnebfmidcpaa
