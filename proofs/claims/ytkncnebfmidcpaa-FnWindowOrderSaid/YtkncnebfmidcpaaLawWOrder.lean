/- The law FnWindowOrder: the walk. -/
import Derived.Test.YtkncnebfmidcpaaDrWi
import Derived.Test.YtkncnebfmidcpaaWImp
import Derived.Test.YtkncnebfmidcpaaWSw
import Derived.Test.YtkncnebfmidcpaaWLaw
namespace Go.Proofs.Ytkncnebfmidcpaa
open Go.RowKit
set_option linter.unusedVariables false
set_option linter.unusedSimpArgs false

set_option maxRecDepth 100000 in
set_option maxHeartbeats 8000000 in
theorem worder_walk (a : Option Addr) (len cap : Nat) (zs : List Int) (w : World) (h : IsRow .u8 w a len cap zs) :
    Calls Try.prog 6 #[.slice a len cap] w fun e w' => e = .returned (.bool true) ∧ Below w.heap.size w w' := by
  have H := Lib.hid h
  clear h
  by_cases hl : 1048576 < len
  · go_enter Try.func6, Try.ntmps6
    go_wp2
    go_ret
    exact ⟨rfl, Below.refl _ _⟩
  go_enter Try.func6, Try.ntmps6
  go_wp2_with fail
  refine (drinc_any a len cap zs w H.out).mono ?_
  rintro e w1 ⟨v, l, i, rfl, hw, hl8, hne, hb1⟩
  have W1 := Lib.hid hw
  have B1 := Lib.hid hb1
  have CI := Lib.hid (iwi_any v l i w1 hw (by omega))
  have CS : Hid (∀ W, Below w1.heap.size w1 W → Calls Try.prog 16 #[v, .int .i64 i] W (GotI W (wincv l i))) := Lib.hid fun W hb => swi_any v l i W (hw.below hb) (by omega)
  obtain ⟨n, hn⟩ : ∃ n, wincv l i = n := ⟨_, rfl⟩
  rw [hn] at CI CS
  obtain ⟨ax, cx, rfl, _, hg⟩ := hw
  clear hb1 hne H
  go_wp2_with fail
  refine CI.out.mono ?_
  rintro e w2 ⟨rfl, hb2⟩
  have B2 := Lib.hid hb2
  have CT := Lib.hid (CS.out w2 hb2)
  clear hb2 CS CI
  go_wp2_with fail
  refine CT.out.mono ?_
  rintro e w3 ⟨rfl, hb3⟩
  have B3 := Lib.hid (B2.out.trans (hb3.mono B2.out.size))
  have B4 := Lib.hid (B1.out.trans (B3.out.mono B1.out.size))
  clear hb3 CT B2
  by_cases hat : wat l i
  case neg =>
    have hn1 : n = -1 := by rw [← hn]; exact if_neg hat
    subst hn1
    clear hn hat
    go_wp2_with fail
    go_ret
    exact ⟨rfl, B4.out⟩
  obtain ⟨k, rfl⟩ := Int.eq_ofNat_of_zero_le hat.2.1
  have hk : k < l.length := by have := hat.2; omega
  have HN : Hid (n = winc l (l.getD k wdD)) := Lib.hid (by rw [← hn]; exact if_pos hat)
  have HK := Lib.hid hat.1
  obtain ⟨g, o, rfl, _⟩ := hg (by rintro rfl; simp at hk)
  have HC := Lib.hid ((W1.out.below B3.out).at_ hk)
  have HP := Lib.hid (HK.out.2 _ (takeW l k hk).2)
  have hkl : (k : Int) < (l.length : Int) := by omega
  clear hn hat hg
  have hbd := winc_bd HK.out HP.out
  obtain ⟨p, hp⟩ : ∃ p, l.getD k wdD = p := ⟨_, rfl⟩
  rw [hp] at HC HN HP hbd
  have HG := Lib.hid hp
  clear hp
  obtain ⟨x, y, z, t⟩ := p
  obtain ⟨c0, c1, c2, c3⟩ := HC.out
  simp only at c0 c1 c2 c3
  rw [← HN.out] at hbd
  obtain ⟨n0, n1, n2⟩ := hbd
  obtain ⟨x1, x2⟩ := HP.out.1
  simp only at x1 x2 n1 n2
  have hx0 : x ≠ 0 := by omega
  have hn0 : ¬ n < 0 := by omega
  have w5 : wrap64 ((1000 : Int).tdiv x) = 1000 / x := tdiv_in (by omega) (by omega) x1
  obtain ⟨q, hq⟩ : ∃ q, 1000 / x = q := ⟨_, rfl⟩
  rw [hq] at w5 n1 n2
  have HX := Lib.hid (show l.getD k wdD = (x, y, z, t) from HG.out)
  clear hq w5 hx0 n1 n2 x1 x2 c0 c1 c2 c3
  have hl4 : l.length ≤ 4 := HK.out.1.2
  have O0 := Lib.hid (OwnW.new w3.heap.size w3 (Nat.le_refl _))
  have S0 := Lib.hid (show Below w3.heap.size w3 (w3.alloc (.cells #[] 28)) from (Below.refl _ _).alloc (Nat.le_refl _) _)
  go_wp2_with fail
  generalize w3.alloc (.cells #[] 28) = W4 at O0 S0 ⊢
  generalize hv0 : (Value.slice (some ⟨w3.heap.size, 0, none⟩) 0 0) = v0 at O0 ⊢
  go_loopw [7, 8] (fun sv iv wr => ∃ (m j : Nat) (av : Option Addr) (cv : Nat), m + j = l.length ∧ iv = .int .i64 ((m : Int) - 1) ∧ sv = .slice av j cv ∧ Hid (OwnW wr w3.heap.size (.slice av j cv) (l.reverse.take j)) ∧ Hid (Below w3.heap.size w3 wr)) (fun _ iv _ => (intOf iv + 1).toNat)
  case atStart => exact ⟨l.length, 0, some ⟨w3.heap.size, 0, none⟩, 0, by omega, rfl, hv0.symm, by rw [hv0]; exact O0, S0⟩
  case round =>
    obtain ⟨m, j, av, cv, hmj, rfl, rfl, HO, HB⟩ := hrel
    match m, hmj with
    | 0, hmj =>
      have hj : j = l.length := by omega
      have hjr : l.reverse.take j = l.reverse := List.take_of_length_le (by rw [List.length_reverse]; omega)
      rw [hjr] at HO
      have B9 := Lib.hid (B4.out.trans (HB.out.mono B4.out.size))
      have CB := Lib.hid (iwi_any _ l.reverse ((l.length : Int) - 1 - (k : Int)) wr HO.out.pks (by rw [List.length_reverse]; omega))
      have hval : wincv l.reverse ((l.length : Int) - 1 - (k : Int)) = n := by
        have e1 : ((l.length : Int) - 1 - (k : Int)).toNat = l.length - 1 - k := by omega
        have e2 : wat l.reverse ((l.length : Int) - 1 - (k : Int)) := ⟨rev_ok HK.out, by omega, by rw [List.length_reverse]; omega⟩
        have e3 : l.reverse.getD (l.length - 1 - k) wdD = (x, y, z, t) := by rw [rev_at (by omega), show l.length - 1 - (l.length - 1 - k) = k by omega]; exact HX.out
        rw [show wincv l.reverse ((l.length : Int) - 1 - (k : Int)) = winc l.reverse (l.reverse.getD ((l.length : Int) - 1 - (k : Int)).toNat wdD) from if_pos e2, e1, e3, winc_rev hl4]
        exact HN.out.symm
      rw [hval] at CB
      clear hval hjr hj hmj
      go_wp2_with fail
      refine CB.out.mono ?_
      rintro e w9 ⟨rfl, hb9⟩
      have BA := Lib.hid (B9.out.trans (hb9.mono B9.out.size))
      clear hb9
      go_wp2_with fail
      go_ret
      exact ⟨rfl, BA.out⟩
    | m + 1, hmj =>
      have hm1 : ((m + 1 : Nat) : Int) - 1 = (m : Int) := by omega
      rw [hm1]
      have hml : m < l.length := by omega
      have hml' : (m : Int) < (l.length : Int) := by omega
      have hm0 : (0 : Int) ≤ (m : Int) := by omega
      have CP := (W1.out.below (B3.out.trans (HB.out.mono B3.out.size))).at_ hml
      have HT : Hid (l.reverse.take (j + 1) = l.reverse.take j ++ [l.getD m wdD]) := Lib.hid (by
        rw [(takeW l.reverse j (by rw [List.length_reverse]; omega)).1, rev_at (by omega), show l.length - 1 - j = m by omega])
      generalize l.getD m wdD = p at CP HT
      obtain ⟨px, py, pz, pt⟩ := p
      obtain ⟨d0, d1, d2, d3⟩ := CP
      simp only at d0 d1 d2 d3
      have U9 := Lib.hid (show Below wr.heap.size wr (wr.alloc (.cells #[.int .i64 px, .int .i64 py, .int .i64 pz, .int .i64 pt] 28)) from (Below.refl _ _).alloc (Nat.le_refl _) _)
      have O := Lib.hid (HO.out.below U9.out)
      have SS := Lib.hid (SrcW.new wr (px, py, pz, pt) 28)
      have hsz := Lib.hid HB.out.size
      have hlt := Lib.hid (fun q e => (World.ownsRow.lt HO.out q e).1 : ∀ q, (Value.slice av j cv).ownBlock = some q → w3.heap.size ≤ q)
      have htl : (l.reverse.take j).length = j := by rw [List.length_take, List.length_reverse]; omega
      have hj4 : j ≤ 4 := by omega
      have HMJ := Lib.hid hmj
      clear hmj
      go_wp2_with (at_builtin; refine wpList_app_wd _ rfl _ _ rfl w3.heap.size _ (l.reverse.take j) [(px, py, pz, pt)] rfl O.out _ rfl SS.out (by rw [htl]; simp; omega) (by have := hsz.out; simp; omega) ?_)
      intro aa nn cc w9 hO hnn hg hgg hnil
      have hnn' : nn = j + 1 := by have := hnn.out; simpa [htl] using this
      subst hnn'
      rw [← HT.out] at hO
      have HO2 := Lib.hid hO
      have HB2 := Lib.hid ((HB.out.trans (U9.out.mono HB.out.size)).grown hg (Nat.le_trans HB.out.size U9.out.size) hlt.out)
      clear hO hnn hg hgg hnil d0 d1 d2 d3 htl
      go_wp2_with fail
      go_roundw
      case rel => exact ⟨m, j + 1, aa, cc, by have := HMJ.out; omega, by go_num, rfl, HO2, HB2⟩
      case measure => first | (simp [intOf]; done) | (simp [intOf]; omega)
end Go.Proofs.Ytkncnebfmidcpaa
