/- The law FnWindowCopies: the walk. -/
import Derived.Test.YtkncnebfmidcpaaDrWi
import Derived.Test.YtkncnebfmidcpaaWImp
import Derived.Test.YtkncnebfmidcpaaWSw
import Derived.Test.YtkncnebfmidcpaaWLaw
import Derived.Deep.RegionLaw
namespace Go.Proofs.Ytkncnebfmidcpaa
open Go.RowKit
set_option linter.unusedVariables false
set_option linter.unusedSimpArgs false

set_option maxRecDepth 100000 in
set_option maxHeartbeats 8000000 in
theorem wcopies_walk (a : Option Addr) (len cap : Nat) (zs : List Int) (b : Option Addr) (len2 cap2 : Nat) (ys : List Int) (w : World) (h : IsRow .u8 w a len cap zs) (h2 : IsRow .u8 w b len2 cap2 ys) :
    Calls Try.prog 5 #[.slice a len cap, .slice b len2 cap2] w fun e w' => e = .returned (.bool true) ∧ Below w.heap.size w w' := by
  have H := Lib.hid h
  clear h
  by_cases hl : 1048576 < len
  · go_enter Try.func5, Try.ntmps5
    go_wp2
    go_ret
    exact ⟨rfl, Below.refl _ _⟩
  by_cases hl2 : 1048576 < len2
  · go_enter Try.func5, Try.ntmps5
    go_wp2
    go_ret
    exact ⟨rfl, Below.refl _ _⟩
  go_enter Try.func5, Try.ntmps5
  go_wp2_with fail
  refine (drinc_any a len cap zs w H.out).mono ?_
  rintro e w1 ⟨v, l, i, rfl, hw, hl8, hne, hb1⟩
  have W1 := Lib.hid hw
  have B1 := Lib.hid hb1
  have CI := Lib.hid (iwi_any v l i w1 hw (by omega))
  have CS : Hid (∀ W, Below w1.heap.size w1 W → Calls Try.prog 16 #[v, .int .i64 i] W (GotI W (wincv l i))) := Lib.hid fun W hb => swi_any v l i W (hw.below hb) (by omega)
  obtain ⟨n, hn⟩ : ∃ n, wincv l i = n := ⟨_, rfl⟩
  rw [hn] at CI CS
  obtain ⟨ax, cx, rfl, _, hg⟩ := hw
  clear hb1 hne H
  go_wp2_with fail
  refine CI.out.mono ?_
  rintro e w2 ⟨rfl, hb2⟩
  have B2 := Lib.hid hb2
  have CT := Lib.hid (CS.out w2 hb2)
  clear hb2 CS CI
  go_wp2_with fail
  refine CT.out.mono ?_
  rintro e w3 ⟨rfl, hb3⟩
  have B3 := Lib.hid (B2.out.trans (hb3.mono B2.out.size))
  have B4 := Lib.hid (B1.out.trans (B3.out.mono B1.out.size))
  clear hb3 CT B2
  by_cases hat : wat l i
  case neg =>
    have hn1 : n = -1 := by rw [← hn]; exact if_neg hat
    subst hn1
    clear hn hat
    go_wp2_with fail
    go_ret
    exact ⟨rfl, B4.out⟩
  obtain ⟨k, rfl⟩ := Int.eq_ofNat_of_zero_le hat.2.1
  have hk : k < l.length := by have := hat.2; omega
  have HN : Hid (n = winc l (l.getD k wdD)) := Lib.hid (by rw [← hn]; exact if_pos hat)
  have HK := Lib.hid hat.1
  obtain ⟨g, o, rfl, _⟩ := hg (by rintro rfl; simp at hk)
  have HC := Lib.hid ((W1.out.below B3.out).at_ hk)
  have HP := Lib.hid (HK.out.2 _ (takeW l k hk).2)
  have hkl : (k : Int) < (l.length : Int) := by omega
  clear hn hat hg
  have hbd := winc_bd HK.out HP.out
  obtain ⟨p, hp⟩ : ∃ p, l.getD k wdD = p := ⟨_, rfl⟩
  rw [hp] at HC HN HP hbd
  have HG := Lib.hid hp
  clear hp
  obtain ⟨x, y, z, t⟩ := p
  obtain ⟨c0, c1, c2, c3⟩ := HC.out
  simp only at c0 c1 c2 c3
  rw [← HN.out] at hbd
  obtain ⟨n0, n1, n2⟩ := hbd
  obtain ⟨x1, x2⟩ := HP.out.1
  simp only at x1 x2 n1 n2
  have hx0 : x ≠ 0 := by omega
  have hn0 : ¬ n < 0 := by omega
  have w5 : wrap64 ((1000 : Int).tdiv x) = 1000 / x := tdiv_in (by omega) (by omega) x1
  obtain ⟨q, hq⟩ : ∃ q, 1000 / x = q := ⟨_, rfl⟩
  rw [hq] at w5 n1 n2
  clear c0 c1 c2 c3
  have hl4 : l.length ≤ 4 := HK.out.1.2
  have O0 := Lib.hid (OwnW.new w3.heap.size w3 (Nat.le_refl _))
  have S0 := Lib.hid (show Below w3.heap.size w3 (w3.alloc (.cells #[] 28)) from (Below.refl _ _).alloc (Nat.le_refl _) _)
  obtain ⟨M, hM⟩ : ∃ M : Nat, len2 % 4 = M := ⟨_, rfl⟩
  have hM4 : M < 4 := by omega
  have hMi : (len2 : Int) % 4 = (M : Int) := by omega
  have HMM := Lib.hid hM
  clear hM
  go_wp2_with fail
  generalize w3.alloc (.cells #[] 28) = W4 at O0 S0 ⊢
  generalize hv0 : (Value.slice (some ⟨w3.heap.size, 0, none⟩) 0 0) = v0 at O0 ⊢
  go_loopw [9, 10] (fun sv iv wr => ∃ (j : Nat) (av : Option Addr) (cv : Nat), j ≤ M + 1 ∧ iv = .int .i64 (j : Int) ∧ sv = .slice av j cv ∧ Hid (OwnW wr w3.heap.size (.slice av j cv) (List.replicate j (x, y, z, t))) ∧ Hid (Below w3.heap.size w3 wr)) (fun _ iv _ => M + 1 - (intOf iv).toNat)
  case atStart => exact ⟨0, some ⟨w3.heap.size, 0, none⟩, 0, by omega, rfl, hv0.symm, by rw [hv0]; exact O0, S0⟩
  case round =>
    obtain ⟨j, av, cv, hj, rfl, rfl, HO, HB⟩ := hrel
    by_cases hlt : j ≤ M
    · have hlt' : (j : Int) ≤ (M : Int) := by omega
      obtain ⟨d0, d1, d2, d3⟩ := HC.out.below HB.out HC.out.lt
      simp only at d0 d1 d2 d3
      have U9 := Lib.hid (show Below wr.heap.size wr (wr.alloc (.cells #[.int .i64 x, .int .i64 y, .int .i64 z, .int .i64 t] 28)) from (Below.refl _ _).alloc (Nat.le_refl _) _)
      have O := Lib.hid (HO.out.below U9.out)
      have SS := Lib.hid (SrcW.new wr (x, y, z, t) 28)
      have hsz := Lib.hid HB.out.size
      have hltq := Lib.hid (fun q e => (World.ownsRow.lt HO.out q e).1 : ∀ q, (Value.slice av j cv).ownBlock = some q → w3.heap.size ≤ q)
      have hj4 : j ≤ 4 := by omega
      go_wp2_with (at_builtin; refine wpList_app_wd _ rfl _ _ rfl w3.heap.size _ (List.replicate j (x, y, z, t)) [(x, y, z, t)] rfl O.out _ rfl SS.out (by simp; omega) (by have := hsz.out; simp; omega) ?_)
      intro aa nn cc w9 hO hnn hg hgg hnil
      have hnn' : nn = j + 1 := by have := hnn.out; simpa using this
      subst hnn'
      rw [← List.replicate_succ'] at hO
      have HO2 := Lib.hid hO
      have HB2 := Lib.hid ((HB.out.trans (U9.out.mono HB.out.size)).grown hg (Nat.le_trans HB.out.size U9.out.size) hltq.out)
      clear hO hnn hg hgg hnil d0 d1 d2 d3
      go_wp2_with fail
      go_roundw
      case rel => exact ⟨j + 1, aa, cc, by omega, by go_num, rfl, HO2, HB2⟩
      case measure => simp [intOf]; omega
    · have hlt' : ¬ (j : Int) ≤ (M : Int) := by omega
      have hj1 : 1 ≤ j ∧ j ≤ 4 := by omega
      have B9 := Lib.hid (B4.out.trans (HB.out.mono B4.out.size))
      have CB : Hid (Calls Try.prog 15 #[.slice av j cv, .int .i64 0] wr.drew (GotI wr.drew (winc (List.replicate j (x, y, z, t)) (x, y, z, t)))) := Lib.hid (by
        have k1 := iwi_any _ (List.replicate j (x, y, z, t)) 0 wr.drew (HO.out.below (Below.refl _ _).drew).pks (by simp; omega)
        have hat : wat (List.replicate j (x, y, z, t)) 0 := ⟨rep_ok HP.out hj1, by omega, by rw [List.length_replicate]; omega⟩
        rw [show wincv (List.replicate j (x, y, z, t)) 0 = winc (List.replicate j (x, y, z, t)) ((List.replicate j (x, y, z, t)).getD 0 wdD) from if_pos hat, getW _ _ (by simp; omega)] at k1
        simpa using k1)
      have HV : Hid ((j : Int) * winc (List.replicate j (x, y, z, t)) (x, y, z, t) ≤ q) := Lib.hid (by have := winc_copies HP.out hj1; simp only at this; rwa [hq] at this)
      have hvb := winc_bd (rep_ok HP.out hj1) HP.out
      generalize winc (List.replicate j (x, y, z, t)) (x, y, z, t) = m at CB HV hvb
      have hm : 0 ≤ m ∧ m ≤ 1000 := by omega
      clear hvb
      have HR : Hid (decide (IntKind.i64.wrap ((j : Int) * m) ≤ IntKind.i64.wrap (Int.tdiv 1000 x)) = true) := Lib.hid (by
        have e0 : 0 ≤ (j : Int) * m := Int.mul_nonneg (by omega) hm.1
        have e1 : (j : Int) * m ≤ q := HV.out
        rw [Int.tdiv_eq_ediv_of_nonneg (by omega), hq]
        generalize (j : Int) * m = u at e0 e1
        have e2 : q ≤ 1000 := n2
        rw [IntWalk.i64_in u (by omega), IntWalk.i64_in q (by omega)]
        exact decide_eq_true e1)
      clear hq w5
      obtain ⟨d0, d1, d2, d3⟩ := (HC.out.below HB.out HC.out.lt).below (Below.refl wr.heap.size wr).drew (HC.out.below HB.out HC.out.lt).lt
      simp only at d0
      have D := Lib.hid ((HC.out.below HB.out HC.out.lt).below (Below.refl wr.heap.size wr).drew (HC.out.below HB.out HC.out.lt).lt)
      clear d1 d2 d3
      go_wp2_with fail
      go_region_law ((first
        | (go_simp; (with_reducible refine CB.out.mono ?_); rintro e wA ⟨rfl, hbA⟩; obtain ⟨f0, f1, f2, f3⟩ := D.out.below hbA D.out.lt; have BA := Lib.hid (B9.out.trans ((Below.refl wr.heap.size wr).drew.trans hbA |>.mono B9.out.size)); simp only at f0; clear f1 f2 f3 hbA)))
      all_goals
        go_wp2_with fail
        go_ret
        exact ⟨ret_bool HR.out, BA.out⟩
end Go.Proofs.Ytkncnebfmidcpaa
