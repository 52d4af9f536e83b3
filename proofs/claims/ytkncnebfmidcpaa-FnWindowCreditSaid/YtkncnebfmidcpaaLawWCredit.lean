/- The law FnWindowCredit: the walk. -/
import Derived.Test.YtkncnebfmidcpaaDrWi
import Derived.Test.YtkncnebfmidcpaaWImp
import Derived.Test.YtkncnebfmidcpaaWSw
import Derived.Test.YtkncnebfmidcpaaWLaw
import Derived.Test.YtkncnebfmidcpaaSameW
import Derived.BigQuiet
import Derived.Deep.QuietTactic
import Derived.Deep.Draws
import Derived.Test.YtkncnebfmidcpaaUpq
namespace Go.Proofs.Ytkncnebfmidcpaa
open Go.RowKit
set_option linter.unusedVariables false
set_option linter.unusedSimpArgs false

set_option maxRecDepth 100000 in
set_option maxHeartbeats 8000000 in
theorem wcredit_walk (a : Option Addr) (len cap : Nat) (zs : List Int) (w : World) (h : IsRow .u8 w a len cap zs) :
    Calls Try.prog 9 #[.slice a len cap] w fun e w' => e = .returned (.bool true) ∧ Below w.heap.size w w' := by
  have H := Lib.hid h
  clear h
  by_cases hl : 1048576 < len
  · go_enter Try.func9, Try.ntmps9
    go_wp2
    go_ret
    exact ⟨rfl, Below.refl _ _⟩
  go_enter Try.func9, Try.ntmps9
  go_wp2_with fail
  refine (drack_any a len cap zs w H.out).mono ?_
  rintro e w1 ⟨v, l, i, rfl, hw, hl8, hne, hb1⟩
  have W1 := Lib.hid hw
  have B1 := Lib.hid hb1
  have CI := Lib.hid (iwa_any v l i w1 hw (by omega))
  have CS : Hid (∀ W, Below w1.heap.size w1 W → Calls Try.prog 19 #[v, .int .i64 i] W (GotWs W (wackv l i) (decide (wat l i)))) := Lib.hid fun W hb => swa_any v l i W (hw.below hb) (by omega)
  obtain ⟨r, hr⟩ : ∃ r, wackv l i = r := ⟨_, rfl⟩
  rw [hr] at CI CS
  have hrl : r.length ≤ 8 := by
    rw [← hr]; unfold wackv wack
    split
    · rw [List.length_set]; exact hl8
    · simp
  obtain ⟨ax, cx, rfl, _, hg⟩ := hw
  clear hb1 hne H
  by_cases hat : wat l i
  case neg =>
    rw [decide_eq_false hat] at CI CS
    clear hr hat
    go_wp2_with fail
    refine CI.out.mono ?_
    rintro e w2 ⟨v2, rfl, hO2, _, hb2⟩
    have CT := Lib.hid (CS.out w2 hb2)
    have U2 := Lib.hid hO2.pks
    have B2 := Lib.hid (B1.out.trans (hb2.mono B1.out.size))
    obtain ⟨a2, c2, rfl⟩ := hO2.shape
    clear hb2 CS CI hO2
    go_wp2_with fail
    refine CT.out.mono ?_
    rintro e w3 ⟨v3, rfl, hO3, _, hb3⟩
    have V3 := Lib.hid hO3.pks
    have U3 := Lib.hid (U2.out.below hb3)
    have B3 := Lib.hid (B2.out.trans (hb3.mono B2.out.size))
    obtain ⟨a3, c3, rfl⟩ := hO3.shape
    clear hb3 CT U2 B2 hO3
    go_wp2_with fail
    refine (samew_any _ _ r w3 U3.out V3.out (by omega)).mono ?_
    rintro e w4 ⟨rfl, hb4⟩
    have B4 := Lib.hid (B3.out.trans (hb4.mono B3.out.size))
    have CQ := Lib.hid (samew_any _ _ r w4 (U3.out.below hb4) (V3.out.below hb4) (by omega))
    clear hb4 B3 U3 V3
    go_wp2_with fail
    refine CQ.out.mono ?_
    rintro e w5 ⟨rfl, hb5⟩
    have B5 := Lib.hid (B4.out.trans (hb5.mono B4.out.size))
    clear hb5 B4 CQ
    go_wp2_with fail
    go_ret
    exact ⟨rfl, B5.out⟩
  rw [decide_eq_true hat] at CI CS
  obtain ⟨k, rfl⟩ := Int.eq_ofNat_of_zero_le hat.2.1
  have hk : k < l.length := by have := hat.2; omega
  have HR : Hid (r = wack l k) := Lib.hid (by rw [← hr]; exact if_pos hat)
  have HAT := Lib.hid hat
  have hl4 : l.length ≤ 4 := hat.1.1.2
  have hrl3 : Hid (r.length = l.length) := Lib.hid (by rw [HR.out]; unfold wack; rw [List.length_set])
  obtain ⟨g, o, rfl, _⟩ := hg (by rintro rfl; simp at hk)
  have HP : Hid (wok1 (l.getD k wdD)) := Lib.hid (hat.1.2 _ (takeW l k hk).2)
  have hkl : (k : Int) < (l.length : Int) := by omega
  clear hr hat hg
  go_wp2_with fail
  refine CI.out.mono ?_
  rintro e w2 ⟨v2, rfl, hO2, hn2, hb2⟩
  have CT := Lib.hid (CS.out w2 hb2)
  have U2 := Lib.hid hO2.pks
  have B2 := Lib.hid hb2
  obtain ⟨g2, c2, rfl, _⟩ := OwnW.open hO2 (hn2 rfl)
  clear hb2 CS CI hO2 hn2
  go_wp2_with fail
  refine CT.out.mono ?_
  rintro e w3 ⟨v3, rfl, hO3, hn3, hb3⟩
  have V3 := Lib.hid hO3.pks
  have U3 := Lib.hid (U2.out.below hb3)
  have B3 := Lib.hid (B2.out.trans (hb3.mono B2.out.size))
  obtain ⟨a3, c3, rfl⟩ := hO3.shape
  clear hb3 CT U2 B2 hO3 hn3
  go_wp2_with fail
  refine (samew_any _ _ r w3 U3.out V3.out (by omega)).mono ?_
  rintro e w4 ⟨rfl, hb4⟩
  have X4 := Lib.hid (B3.out.trans (hb4.mono B3.out.size))
  have B4 := Lib.hid (B1.out.trans (X4.out.mono B1.out.size))
  have L4 := Lib.hid (W1.out.below X4.out)
  have R4' := Lib.hid (U3.out.below hb4)
  clear hb4 B3 U3 V3 X4 W1 B1
  rw [hrl3.out]
  rw [hrl3.out] at R4'
  clear hrl
  have HQ : Hid (r.getD k wdD = ack1 (winc l (l.getD k wdD)) (l.getD k wdD)) := Lib.hid (by rw [HR.out]; unfold wack; rw [getD_set_w _ _ _ _ hk, if_pos rfl])
  have CL := Lib.hid (L4.out.at_ hk)
  have CR := Lib.hid (R4'.out.at_ (i := k) (by rw [hrl3.out]; exact hk))
  have hbd := winc_bd HAT.out.1 HP.out
  have CI : Hid (∀ W, Below w4.heap.size w4 W → Calls Try.prog 15 #[.slice (some ⟨g, o, none⟩) l.length cx, .int .i64 (k : Int)] W fun e w' => e = .returned (.int .i64 (winc l (l.getD k wdD))) ∧ Below W.heap.size W w') := Lib.hid fun W hb => by
    have k1 := iwi_any _ l (k : Int) W (L4.out.below hb) (by omega)
    rw [show wincv l (k : Int) = winc l (l.getD k wdD) from if_pos HAT.out] at k1
    exact k1
  generalize winc l (l.getD k wdD) = n at HQ CI hbd
  have hn : 0 ≤ n ∧ n ≤ 1000 := by omega
  clear hbd
  obtain ⟨n1, n2⟩ := hn
  generalize r.getD k wdD = p2 at CR HQ
  generalize l.getD k wdD = p at CL HP HQ
  obtain ⟨x, y, z, t⟩ := p
  obtain ⟨x2, y2, z2, t2⟩ := p2
  have HK2 := Lib.hid (ack1_ok (n := n) ⟨n1, n2⟩ HP.out)
  rw [← HQ.out] at HK2
  obtain ⟨⟨x1, x1'⟩, _, ⟨z1, z1'⟩, _⟩ := HP.out
  obtain ⟨⟨x3, x3'⟩, _, ⟨z3, z3'⟩, _⟩ := HK2.out
  simp only at x1 x1' z1 z1' x3 x3' z3 z3'
  obtain ⟨c0, c1, c2', c3'⟩ := CL.out
  obtain ⟨d0, d1, d2, d3⟩ := CR.out
  simp only [Nat.zero_add] at c0 c1 c2' c3' d0 d1 d2 d3
  by_cases hxy : x < y
  · have dd := decide_eq_true hxy
    go_wp2_with fail
    go_quiet (fail)
    have B5 := Lib.hid (below_drewN' B4.out nq)
    go_wp2_with fail
    go_ret
    exact ⟨rfl, B5.out⟩
  · have dd := decide_eq_false hxy
    by_cases h64 : x = 64
    · subst h64
      go_wp2_with fail
      go_quiet (fail)
      have B5 := Lib.hid (below_drewN' B4.out nq)
      go_wp2_with fail
      go_ret
      exact ⟨rfl, B5.out⟩
    · have b64 : (x == 64) = false := by rw [beq_eq_false_iff_ne]; exact h64
      have HS := ack1_credit (n := n) (p := (x, y, z, t)) HP.out hxy h64
      rw [← HQ.out] at HS
      simp only at HS
      have HB : Hid (((1000 * x2 + z2) == (1000 * x + z + n)) = true) := Lib.hid (by rw [HS]; exact beq_self_eq_true _)
      clear HS HQ
      go_wp2_with fail
      go_quiet (fail)
      have B5 := Lib.hid (below_drewN' (Below.refl w4.heap.size w4) nq)
      generalize w4.drewN nq = w5 at B5 ⊢
      go_wp2_with fail
      have e0 := CL.out.below B5.out CL.out.lt
      have e1 := CR.out.below B5.out CR.out.lt
      obtain ⟨f0, f1, f2, f3⟩ := e0
      obtain ⟨h0, h1, h2, h3⟩ := e1
      simp only [Nat.zero_add] at f0 f2 h0 h2
      have F0 := Up.cell (W := w5) f0
      have F2 := Up.cell (W := w5) f2
      have G0 := Up.cell (W := w5) h0
      have G2 := Up.cell (W := w5) h2
      have CU := Lib.hid (up_call (W := w5) (fun W hb => CI.out W (B5.out.trans (hb.mono B5.out.size))))
      have HB2 := HB.out
      have a1 : IntKind.i64.wrap (1000 * x2) = 1000 * x2 := IntWalk.i64_in _ (by omega)
      have a2 : IntKind.i64.wrap (1000 * x2 + z2) = 1000 * x2 + z2 := IntWalk.i64_in _ (by omega)
      have a3 : IntKind.i64.wrap (1000 * x) = 1000 * x := IntWalk.i64_in _ (by omega)
      have a4 : IntKind.i64.wrap (1000 * x + z) = 1000 * x + z := IntWalk.i64_in _ (by omega)
      have a5 : IntKind.i64.wrap (1000 * x + z + n) = 1000 * x + z + n := IntWalk.i64_in _ (by omega)
      clear c0 c1 c2' c3' d0 d1 d2 d3 f0 f1 f2 f3 h0 h1 h2 h3
      refine up_region w5 (Below.refl _ _) (by kernel_rfl) (by kernel_rfl) ?_
      repeat (go_big_quiet_step (first | (go_at_call 15; exact CU.out _) | fail))
      refine wpQuiet_nil ?_
      rintro W2 ⟨⟨W2x, hb2⟩, hw2⟩
      have hW : W2 = W2x := hw2
      subst hW
      have B6 := Lib.hid (B4.out.trans ((B5.out.trans (hb2.mono B5.out.size)).mono B4.out.size))
      go_wp2_with fail
      go_ret
      exact ⟨rfl, B6.out⟩
end Go.Proofs.Ytkncnebfmidcpaa
