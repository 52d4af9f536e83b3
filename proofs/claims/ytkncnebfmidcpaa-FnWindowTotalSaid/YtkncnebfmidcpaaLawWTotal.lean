/- The law FnWindowTotal: the walk. -/
import Derived.Test.YtkncnebfmidcpaaDrWi
import Derived.Test.YtkncnebfmidcpaaWImp
import Derived.Test.YtkncnebfmidcpaaWTot
import Derived.Test.YtkncnebfmidcpaaWLaw
namespace Go.Proofs.Ytkncnebfmidcpaa
open Go.RowKit
set_option linter.unusedVariables false
set_option linter.unusedSimpArgs false

set_option maxRecDepth 100000 in
set_option maxHeartbeats 8000000 in
theorem wtotal_walk (a : Option Addr) (len cap : Nat) (zs : List Int) (b : Option Addr) (len2 cap2 : Nat) (ys : List Int) (w : World) (h : IsRow .u8 w a len cap zs) (h2 : IsRow .u8 w b len2 cap2 ys) :
    Calls Try.prog 12 #[.slice a len cap, .slice b len2 cap2] w fun e w' => e = .returned (.bool true) ∧ Below w.heap.size w w' := by
  have H := Lib.hid h
  clear h h2
  by_cases hl : 1048576 < len
  · go_enter Try.func12, Try.ntmps12
    go_wp2
    go_ret
    exact ⟨rfl, Below.refl _ _⟩
  by_cases hl2 : 1048576 < len2
  · go_enter Try.func12, Try.ntmps12
    go_wp2
    go_ret
    exact ⟨rfl, Below.refl _ _⟩
  go_enter Try.func12, Try.ntmps12
  go_wp2_with fail
  refine (drtot_any a len cap zs w H.out).mono ?_
  rintro e w1 ⟨v, l, rfl, hw, hl8, hne, hb1⟩
  have W1 := Lib.hid hw
  have B1 := Lib.hid hb1
  have CI := Lib.hid (iwt_any v l w1 hw (by omega))
  have CS : Hid (∀ W, Below w1.heap.size w1 W → Calls Try.prog 27 #[v] W (GotI W (wtotv l))) := Lib.hid fun W hb => swt_any v l W (hw.below hb) (by omega)
  obtain ⟨n, hn⟩ : ∃ n, wtotv l = n := ⟨_, rfl⟩
  rw [hn] at CI CS
  obtain ⟨ax, cx, rfl, _, hg⟩ := hw
  clear hb1 hne H
  go_wp2_with fail
  refine CI.out.mono ?_
  rintro e w2 ⟨rfl, hb2⟩
  have B2 := Lib.hid hb2
  have CT := Lib.hid (CS.out w2 hb2)
  clear hb2 CS CI
  go_wp2_with fail
  refine CT.out.mono ?_
  rintro e w3 ⟨rfl, hb3⟩
  have B3 := Lib.hid (B2.out.trans (hb3.mono B2.out.size))
  have B4 := Lib.hid (B1.out.trans (B3.out.mono B1.out.size))
  clear hb3 CT B2
  by_cases hok : wok l
  case neg =>
    have hn1 : n = -1 := by rw [← hn]; exact if_neg hok
    subst hn1
    clear hn hok
    go_wp2_with fail
    go_ret
    exact ⟨rfl, B4.out⟩
  have HN : Hid (n = wtot l) := Lib.hid (by rw [← hn]; exact if_pos hok)
  have HK := Lib.hid hok
  have hbd := wtot_bd l 0 hok.2
  have hl4 : l.length ≤ 4 := hok.1.2
  have hlp : 1 ≤ l.length := hok.1.1
  have hn0 : 0 ≤ n ∧ n ≤ 256 := by rw [HN.out]; unfold wtot; omega
  obtain ⟨n0, n1⟩ := hn0
  have hn2 : ¬ n < 0 := by omega
  obtain ⟨g, o, rfl, _⟩ := hg (by rintro rfl; simp at hlp)
  obtain ⟨k, hk⟩ : ∃ k : Nat, len2 % l.length = k := ⟨_, rfl⟩
  have hkl : k < l.length := by rw [← hk]; exact Nat.mod_lt _ (by omega)
  have hln : l.length ≠ 0 := by omega
  have hlni : (l.length : Int) ≠ 0 := by omega
  have htm : (len2 : Int).tmod (l.length : Int) = (k : Int) := by rw [← hk]; rfl
  have hkl' : (k : Int) < (l.length : Int) := by omega
  clear hn hok hg hbd hk
  go_wp2_with fail
  go_loopw [9, 10] (fun sv iv wr => ∃ j : Nat, j ≤ l.length ∧ iv = .int .i64 (j : Int) ∧ sv = .int .i64 (wtot (l.take j)) ∧ Hid (Below w3.heap.size w3 wr)) (fun _ iv _ => l.length - (intOf iv).toNat)
  case atStart => exact ⟨0, Nat.zero_le _, rfl, rfl, Below.refl _ _⟩
  case round =>
    obtain ⟨j, hj, rfl, rfl, HB⟩ := hrel
    by_cases hlt : j < l.length
    · have hlt' : (j : Int) < (l.length : Int) := by omega
      obtain ⟨c0, c1, c2, c3⟩ := (W1.out.below (B3.out.trans (HB.out.mono B3.out.size))).at_ hlt
      have hp := (HK.out.2 _ (takeW l j hlt).2).1
      have HT := Lib.hid (takeW l j hlt).1
      have hbd := (part_bd HK.out j).2.2
      have HS : Hid (wtot (l.take (j + 1)) = wtot (l.take j) + (l.getD j wdD).1) := Lib.hid (by rw [HT.out, wtot_snoc])
      clear HT
      generalize l.getD j wdD = p at *
      generalize wtot (l.take j) = s at *
      obtain ⟨x, y, z, t⟩ := p
      simp only at c0 c1 c2 c3 hp
      have w6 : wrap64 (s + x) = s + x := by unfold wrap64; omega
      go_wp2_with fail
      go_roundw
      case rel => exact ⟨j + 1, by omega, by go_num, by rw [HS.out], HB⟩
      case measure => simp [intOf]; omega
    · have hlt' : ¬ (j : Int) < (l.length : Int) := by omega
      rw [List.take_of_length_le (show l.length ≤ j by omega), ← HN.out]
      have hat : wat l (k : Int) := ⟨HK.out, by omega, by omega⟩
      have B9 := Lib.hid (B4.out.trans (HB.out.mono B4.out.size))
      have L9 := Lib.hid (W1.out.below (B3.out.trans (HB.out.mono B3.out.size)))
      have CA := Lib.hid (iwa_any _ l (k : Int) wr L9.out (by omega))
      rw [decide_eq_true hat, show wackv l (k : Int) = wack l k from if_pos hat] at CA
      have CL : Hid (∀ W, Below wr.heap.size wr W → Calls Try.prog 22 #[.slice (some ⟨g, o, none⟩) l.length cx, .int .i64 (k : Int)] W (GotWs W (wloss l k) true)) := Lib.hid fun W hb => by
        have e := iwl_any _ l (k : Int) W (L9.out.below hb) (by omega)
        rwa [decide_eq_true hat, show wlossv l (k : Int) = wloss l k from if_pos hat] at e
      have E1 := wtot_ack hat
      have E2 := wtot_loss hat
      simp only [Int.toNat_natCast] at E1 E2
      have V1 : Hid (wtotv (wack l k) = wtot (wack l k)) := Lib.hid (if_pos (wack_ok hat))
      have V2 : Hid (wtotv (wloss l k) = wtot (wloss l k)) := Lib.hid (if_pos (wloss_ok hat))
      have Q1 : Hid ((wack l k).length ≤ 1048576) := Lib.hid (by unfold wack; rw [List.length_set]; omega)
      have Q2 : Hid ((wloss l k).length ≤ 1048576) := Lib.hid (by unfold wloss; rw [List.length_set]; omega)
      rw [← HN.out] at E1 E2
      generalize wack l k = la at CA V1 Q1 E1
      generalize wloss l k = lb at CL V2 Q2 E2
      obtain ⟨ta, hta⟩ : ∃ ta, wtot la = ta := ⟨_, rfl⟩
      obtain ⟨tb, htb⟩ : ∃ tb, wtot lb = tb := ⟨_, rfl⟩
      rw [hta] at V1 E1
      rw [htb] at V2 E2
      obtain ⟨f1, f2⟩ := E1
      have d1 := decide_eq_true f1
      have d2 := decide_eq_true f2
      have d3 := decide_eq_true E2
      clear hat hta htb
      go_wp2_with fail
      refine CA.out.mono ?_
      rintro e w4 ⟨v4, rfl, hO4, _, hb4⟩
      have P4 := Lib.hid hO4.pks
      have X4 := Lib.hid hb4
      obtain ⟨a4, c4, rfl⟩ := hO4.shape
      have CM := Lib.hid (CL.out w4 hb4)
      clear hb4 hO4 CA CL
      go_wp2_with fail
      refine CM.out.mono ?_
      rintro e w5 ⟨v5, rfl, hO5, _, hb5⟩
      have P5 := Lib.hid hO5.pks
      have P4' := Lib.hid (P4.out.below hb5)
      have X5 := Lib.hid (X4.out.trans (hb5.mono X4.out.size))
      obtain ⟨a5, c5, rfl⟩ := hO5.shape
      clear hb5 hO5 CM P4 X4
      have T1 := Lib.hid (iwt_any _ la w5 P4'.out Q1.out)
      rw [V1.out] at T1
      go_wp2_with fail
      refine T1.out.mono ?_
      rintro e w6 ⟨rfl, hb6⟩
      have X6 := Lib.hid (X5.out.trans (hb6.mono X5.out.size))
      have T2 := Lib.hid (iwt_any _ la w6 (P4'.out.below hb6) Q1.out)
      have P6 := Lib.hid (P5.out.below hb6)
      rw [V1.out] at T2
      clear hb6
      go_wp2_with fail
      refine T2.out.mono ?_
      rintro e w7 ⟨rfl, hb7⟩
      have X7 := Lib.hid (X6.out.trans (hb7.mono X6.out.size))
      have T3 := Lib.hid (iwt_any _ lb w7 (P6.out.below hb7) Q2.out)
      rw [V2.out] at T3
      clear hb7
      go_wp2_with fail
      refine T3.out.mono ?_
      rintro e w8 ⟨rfl, hb8⟩
      have X8 := Lib.hid (B9.out.trans ((X7.out.trans (hb8.mono X7.out.size)).mono B9.out.size))
      clear hb8
      go_wp2_with fail
      go_ret
      exact ⟨rfl, X8.out⟩
end Go.Proofs.Ytkncnebfmidcpaa
