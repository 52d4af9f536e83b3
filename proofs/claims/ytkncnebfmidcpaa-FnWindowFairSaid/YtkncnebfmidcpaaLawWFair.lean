/- The law FnWindowFair: the walk. -/
import Derived.Test.YtkncnebfmidcpaaDrWi
import Derived.Test.YtkncnebfmidcpaaWImp
import Derived.Test.YtkncnebfmidcpaaWSw
import Derived.Test.YtkncnebfmidcpaaWLaw
namespace Go.Proofs.Ytkncnebfmidcpaa
open Go.RowKit
set_option linter.unusedVariables false
set_option linter.unusedSimpArgs false

set_option maxRecDepth 100000 in
set_option maxHeartbeats 8000000 in
theorem wfair_walk (a : Option Addr) (len cap : Nat) (zs : List Int) (w : World) (h : IsRow .u8 w a len cap zs) :
    Calls Try.prog 3 #[.slice a len cap] w fun e w' => e = .returned (.bool true) ∧ Below w.heap.size w w' := by
  have H := Lib.hid h
  clear h
  by_cases hl : 1048576 < len
  · go_enter Try.func3, Try.ntmps3
    go_wp2
    go_ret
    exact ⟨rfl, Below.refl _ _⟩
  go_enter Try.func3, Try.ntmps3
  go_wp2_with fail
  refine (drinc_any a len cap zs w H.out).mono ?_
  rintro e w1 ⟨v, l, i, rfl, hw, hl8, hne, hb1⟩
  have W1 := Lib.hid hw
  have B1 := Lib.hid hb1
  have CI := Lib.hid (iwi_any v l i w1 hw (by omega))
  have CS : Hid (∀ W, Below w1.heap.size w1 W → Calls Try.prog 16 #[v, .int .i64 i] W (GotI W (wincv l i))) := Lib.hid fun W hb => swi_any v l i W (hw.below hb) (by omega)
  obtain ⟨n, hn⟩ : ∃ n, wincv l i = n := ⟨_, rfl⟩
  rw [hn] at CI CS
  obtain ⟨ax, cx, rfl, _, hg⟩ := hw
  clear hb1 hne H
  go_wp2_with fail
  refine CI.out.mono ?_
  rintro e w2 ⟨rfl, hb2⟩
  have B2 := Lib.hid hb2
  have CT := Lib.hid (CS.out w2 hb2)
  clear hb2 CS CI
  go_wp2_with fail
  refine CT.out.mono ?_
  rintro e w3 ⟨rfl, hb3⟩
  have B3 := Lib.hid (B2.out.trans (hb3.mono B2.out.size))
  have B4 := Lib.hid (B1.out.trans (B3.out.mono B1.out.size))
  clear hb3 CT B2
  by_cases hat : wat l i
  case neg =>
    have hn1 : n = -1 := by rw [← hn]; exact if_neg hat
    subst hn1
    clear hn hat
    go_wp2_with fail
    go_ret
    exact ⟨rfl, B4.out⟩
  obtain ⟨k, rfl⟩ := Int.eq_ofNat_of_zero_le hat.2.1
  have hk : k < l.length := by have := hat.2; omega
  have HN : Hid (n = winc l (l.getD k wdD)) := Lib.hid (by rw [← hn]; exact if_pos hat)
  have HK := Lib.hid hat.1
  obtain ⟨g, o, rfl, _⟩ := hg (by rintro rfl; simp at hk)
  have HC := Lib.hid ((W1.out.below B3.out).at_ hk)
  have HP := Lib.hid (HK.out.2 _ (takeW l k hk).2)
  have hkl : (k : Int) < (l.length : Int) := by omega
  clear hn hat hg
  have hbd := winc_bd HK.out HP.out
  obtain ⟨p, hp⟩ : ∃ p, l.getD k wdD = p := ⟨_, rfl⟩
  rw [hp] at HC HN HP hbd
  have HG := Lib.hid hp
  clear hp
  obtain ⟨x, y, z, t⟩ := p
  obtain ⟨c0, c1, c2, c3⟩ := HC.out
  simp only at c0 c1 c2 c3
  rw [← HN.out] at hbd
  obtain ⟨n0, n1, n2⟩ := hbd
  obtain ⟨x1, x2⟩ := HP.out.1
  simp only at x1 x2 n1 n2
  have hx0 : x ≠ 0 := by omega
  have hn0 : ¬ n < 0 := by omega
  have w5 : wrap64 ((1000 : Int).tdiv x) = 1000 / x := tdiv_in (by omega) (by omega) x1
  obtain ⟨q, hq⟩ : ∃ q, 1000 / x = q := ⟨_, rfl⟩
  rw [hq] at w5 n1 n2
  clear hq x1 x2
  have hnq := decide_eq_true n1
  go_wp2_with fail
  go_ret
  exact ⟨rfl, B4.out⟩
end Go.Proofs.Ytkncnebfmidcpaa
