/- The law FnWindowSingle: the walk. -/
import Derived.Test.YtkncnebfmidcpaaDrWi
import Derived.Test.YtkncnebfmidcpaaWImp
import Derived.Test.YtkncnebfmidcpaaWSw
import Derived.Test.YtkncnebfmidcpaaWLaw
namespace Go.Proofs.Ytkncnebfmidcpaa
open Go.RowKit
set_option linter.unusedVariables false
set_option linter.unusedSimpArgs false

set_option maxRecDepth 100000 in
set_option maxHeartbeats 8000000 in
theorem wsingle_walk (a : Option Addr) (len cap : Nat) (zs : List Int) (w : World) (h : IsRow .u8 w a len cap zs) :
    Calls Try.prog 4 #[.slice a len cap] w fun e w' => e = .returned (.bool true) ∧ Below w.heap.size w w' := by
  have H := Lib.hid h
  clear h
  by_cases hl : 1048576 < len
  · go_enter Try.func4, Try.ntmps4
    go_wp2
    go_ret
    exact ⟨rfl, Below.refl _ _⟩
  go_enter Try.func4, Try.ntmps4
  go_wp2_with fail
  refine (drinc_any a len cap zs w H.out).mono ?_
  rintro e w1 ⟨v, l, i, rfl, hw, hl8, hne, hb1⟩
  have W1 := Lib.hid hw
  have B1 := Lib.hid hb1
  have CI := Lib.hid (iwi_any v l i w1 hw (by omega))
  have CS : Hid (∀ W, Below w1.heap.size w1 W → Calls Try.prog 16 #[v, .int .i64 i] W (GotI W (wincv l i))) := Lib.hid fun W hb => swi_any v l i W (hw.below hb) (by omega)
  obtain ⟨n, hn⟩ : ∃ n, wincv l i = n := ⟨_, rfl⟩
  rw [hn] at CI CS
  obtain ⟨ax, cx, rfl, _, hg⟩ := hw
  clear hb1 hne H
  go_wp2_with fail
  refine CI.out.mono ?_
  rintro e w2 ⟨rfl, hb2⟩
  have B2 := Lib.hid hb2
  have CT := Lib.hid (CS.out w2 hb2)
  clear hb2 CS CI
  go_wp2_with fail
  refine CT.out.mono ?_
  rintro e w3 ⟨rfl, hb3⟩
  have B3 := Lib.hid (B2.out.trans (hb3.mono B2.out.size))
  have B4 := Lib.hid (B1.out.trans (B3.out.mono B1.out.size))
  clear hb3 CT B2
  by_cases hat : wat l i
  case neg =>
    have hn1 : n = -1 := by rw [← hn]; exact if_neg hat
    subst hn1
    clear hn hat
    go_wp2_with fail
    go_ret
    exact ⟨rfl, B4.out⟩
  obtain ⟨k, rfl⟩ := Int.eq_ofNat_of_zero_le hat.2.1
  have hk : k < l.length := by have := hat.2; omega
  have HN : Hid (n = winc l (l.getD k wdD)) := Lib.hid (by rw [← hn]; exact if_pos hat)
  have HK := Lib.hid hat.1
  obtain ⟨g, o, rfl, _⟩ := hg (by rintro rfl; simp at hk)
  have HC := Lib.hid ((W1.out.below B3.out).at_ hk)
  have HP := Lib.hid (HK.out.2 _ (takeW l k hk).2)
  have hkl : (k : Int) < (l.length : Int) := by omega
  clear hn hat hg
  have hbd := winc_bd HK.out HP.out
  obtain ⟨p, hp⟩ : ∃ p, l.getD k wdD = p := ⟨_, rfl⟩
  rw [hp] at HC HN HP hbd
  have HG := Lib.hid hp
  clear hp
  obtain ⟨x, y, z, t⟩ := p
  obtain ⟨c0, c1, c2, c3⟩ := HC.out
  simp only at c0 c1 c2 c3
  rw [← HN.out] at hbd
  obtain ⟨n0, n1, n2⟩ := hbd
  obtain ⟨x1, x2⟩ := HP.out.1
  simp only at x1 x2 n1 n2
  have hx0 : x ≠ 0 := by omega
  have hn0 : ¬ n < 0 := by omega
  have w5 : wrap64 ((1000 : Int).tdiv x) = 1000 / x := tdiv_in (by omega) (by omega) x1
  obtain ⟨q, hq⟩ : ∃ q, 1000 / x = q := ⟨_, rfl⟩
  rw [hq] at w5 n1 n2
  have HS : Hid (winc [(x, y, z, t)] (x, y, z, t) = q ∨ winc [(x, y, z, t)] (x, y, z, t) + 1 = q) := Lib.hid (by have := winc_single HP.out; simp only at this; rwa [hq] at this)
  have CO : Hid (∀ c, Calls Try.prog 15 #[.slice (some ⟨g, o + k * 4, none⟩) 1 (c + 1), .int .i64 0] w3 (GotI w3 (winc [(x, y, z, t)] (x, y, z, t)))) := Lib.hid fun c => by
    have k1 := iwi_any (.slice (some ⟨g, o + k * 4, none⟩) 1 (c + 1)) [(x, y, z, t)] 0 w3 ⟨_, c + 1, rfl, by simp, fun _ => ⟨g, o + k * 4, rfl, fun i hi => by
      have : i = 0 := by simp at hi; omega
      subst this
      simpa using HC.out⟩⟩ (by simp)
    have hat : wat [(x, y, z, t)] 0 := ⟨⟨by simp, fun p hp => by rw [List.mem_singleton.1 hp]; exact HP.out⟩, by omega, by simp⟩
    rw [show wincv [(x, y, z, t)] 0 = winc [(x, y, z, t)] (x, y, z, t) from if_pos hat] at k1
    exact k1
  have hm0 : 0 ≤ winc [(x, y, z, t)] (x, y, z, t) := (winc_bd (l := [(x, y, z, t)]) ⟨by simp, fun p hp => by rw [List.mem_singleton.1 hp]; exact HP.out⟩ HP.out).1
  have hcl := Lib.hid W1.out
  clear hq x1 x2
  generalize winc [(x, y, z, t)] (x, y, z, t) = m at CO HS hm0
  have hcx : l.length ≤ cx := by obtain ⟨_, c', e, hc', _⟩ := W1.out; simp only [Value.slice.injEq] at e; omega
  have CO2 := Lib.hid (CO.out (cx - k - 1))
  rw [show cx - k - 1 + 1 = cx - k by omega] at CO2
  clear CO hcx
  go_wp2_with fail
  refine CO2.out.mono ?_
  rintro e w4 ⟨rfl, hb4⟩
  have B5 := Lib.hid (B4.out.trans (hb4.mono B4.out.size))
  obtain ⟨d0, d1, d2, d3⟩ := HC.out.below hb4 HC.out.lt
  simp only at d0
  clear hb4 c0 c1 c2 c3 CO2
  rcases HS.out with e1 | e1
  · have b1 : (m == q) = true := by rw [e1]; exact beq_self_eq_true q
    clear e1
    go_wp2_with fail
    go_ret
    exact ⟨rfl, B5.out⟩
  · have b1 : (m == q) = false := by rw [beq_eq_false_iff_ne]; omega
    have b3 : wrap64 (m + 1) = q := by rw [e1]; unfold wrap64; omega
    clear e1
    go_wp2_with fail
    go_ret
    exact ⟨rfl, B5.out⟩
end Go.Proofs.Ytkncnebfmidcpaa
