/- container/heap's down over the program's heap. -/
import Derived.Test.YtlhjhdlpejpooabHpUp
namespace Go.Proofs.Ytlhjhdlpejpooab
open Go.RowKit
set_option linter.unusedVariables false
set_option linter.unusedSimpArgs false

def ABool (e : Ending) : Prop := ∃ q, e = .returned (.bool q)
theorem kid {i c : Nat} (h : (c - 1) / 2 = i) (h0 : 0 < c) : c = 2 * i + 1 ∨ c = 2 * i + 2 := by omega
set_option maxRecDepth 100000 in
set_option maxHeartbeats 4000000 in
theorem down_any (b g c : Nat) (l : List Tic) (n B : Nat) (W : World) (h : Hs B W b (.slice (some ⟨g, 0, none⟩) l.length c) l) (hd : DnI l n 0) (hn : n ≤ l.length) (hl : l.length ≤ 1048576) :
    Calls Try.prog 84 #[.iface 68 (.pointer (some ⟨b, 0, none⟩)), .int .i64 0, .int .i64 (n : Int)] W fun e w' => ABool e ∧ W.grownBy w' (some g) ∧ ∃ l' : List Tic, l'.Perm l ∧ hok l' n ∧ (∀ k, n ≤ k → l'.getD k (0, 0) = l.getD k (0, 0)) ∧ Hs B w' b (.slice (some ⟨g, 0, none⟩) l.length c) l' := by
  have H0 := Lib.hid h
  have D0 := Lib.hid hd
  clear h hd
  go_enter Try.func84, Try.ntmps84
  go_wp2_with fail
  go_loopw [7] (fun iv wr => ∃ (i : Nat) (m : List Tic), iv = .int .i64 (i : Int) ∧ i ≤ n ∧ Hid (m.Perm l) ∧ Hid (DnI m n i) ∧ Hid (∀ k, n ≤ k → m.getD k (0, 0) = l.getD k (0, 0)) ∧ Hid (Hs B wr b (.slice (some ⟨g, 0, none⟩) l.length c) m) ∧ Hid (W.grownBy wr (some g))) (fun iv _ => n - (intOf iv).toNat)
  case atStart => exact ⟨0, l, rfl, Nat.zero_le _, List.Perm.refl _, D0, fun _ _ => rfl, H0, World.grownBy.refl _ _⟩
  case round =>
    obtain ⟨i, m, rfl, hin, HP, HD, HK, HH, HG⟩ := hrel
    have hml : m.length = l.length := HP.out.length_eq
    have hw1 : IntKind.i64.wrap (2 * (i : Int)) = 2 * (i : Int) := IntWalk.i64_in _ (by omega)
    obtain ⟨j1, hj1⟩ : ∃ j1 : Nat, j1 = 2 * i + 1 := ⟨_, rfl⟩
    obtain ⟨j2, hj2⟩ : ∃ j2 : Nat, j2 = 2 * i + 2 := ⟨_, rfl⟩
    have hw2 : IntKind.i64.wrap (2 * (i : Int) + 1) = (j1 : Int) := by rw [IntWalk.i64_in _ (by omega)]; omega
    have hw3 : IntKind.i64.wrap ((j1 : Int) + 1) = (j2 : Int) := by rw [IntWalk.i64_in _ (by omega)]; omega
    have HJ1 := Lib.hid hj1
    have HJ2 := Lib.hid hj2
    clear hj1 hj2
    have hneg : decide ((j1 : Int) < 0) = false := decide_eq_false (by omega)
    have hneg2 : ¬ (j1 : Int) < 0 := by omega
    by_cases ha : n ≤ j1
    · have hd1 : (n : Int) ≤ (j1 : Int) := by omega
      have HE := Lib.hid (HD.out.done (fun q q0 q1 q2 => by have := kid q2 q0; have := HJ1.out; omega))
      go_wp2_with fail
      go_ret
      exact ⟨⟨_, rfl⟩, HG.out, m, HP.out, HE.out, HK.out, HH.out⟩
    · have hd1 : ¬ (n : Int) ≤ (j1 : Int) := by omega
      have hm1 : j1 < m.length := by omega
      have him : i < m.length := by have := HJ1.out; omega
      have mL : ∀ z, (Go.method (z + 1) 68 (.pointer (some ⟨b, 0, none⟩)) "Less").run Try.prog wr = .ok (121, .slice (some ⟨g, 0, none⟩) l.length c) wr := fun z => methodLess z b _ _ HH.out.cell
      by_cases hb : j2 < n
      · have hd2 : (j2 : Int) < (n : Int) := by omega
        have hm2 : j2 < m.length := by omega
        have CL := Lib.hid (less_any g c m j2 j1 B wr (by rw [hml]; exact HH.out.own) hm2 hm1)
        rw [hml] at CL
        by_cases hk : kl m j2 < kl m j1
        · rw [decide_eq_true hk] at CL
          have HM : Hid (∀ q, 0 < q → q < n → (q - 1) / 2 = i → kl m j2 ≤ kl m q) := Lib.hid fun q q0 q1 q2 => by
            have h1 := HJ1.out; have h2 := HJ2.out
            rcases kid q2 q0 with e | e
            · rw [e, ← h1]; omega
            · rw [e, ← h2]; omega
          have HJ : Hid (j2 < n ∧ 0 < j2 ∧ (j2 - 1) / 2 = i) := Lib.hid (by have := HJ2.out; omega)
          clear hk
          go_wp2_with fail
          refine CL.out.mono ?_
          rintro e w1 ⟨rfl, d, rfl⟩
          have HHx := Lib.hid (HH.out.drewN d)
          have HGx := Lib.hid (HG.out.trans (grownBy_drewN _ d _))
          clear mL CL hd1 hd2 hneg hneg2 hw1 hw2 ha hb
          generalize wr.drewN d = wx at HHx HGx ⊢
          have mL : ∀ z, (Go.method (z + 1) 68 (.pointer (some ⟨b, 0, none⟩)) "Less").run Try.prog wx = .ok (121, .slice (some ⟨g, 0, none⟩) l.length c) wx := fun z => methodLess z b _ _ HHx.out.cell
          have CL := Lib.hid (less_any g c m j2 i B wx (by rw [hml]; exact HHx.out.own) hm2 him)
          rw [hml] at CL
          go_wp2_with fail
          generalize hj : j2 = j at CL HJ HM hm2 ⊢
          clear hj
          by_cases hk2 : kl m j < kl m i
          · rw [decide_eq_true hk2] at CL
            have HD2 := Lib.hid (HD.out.swap (by omega) HJ.out.1 HJ.out.2.1 HJ.out.2.2 hk2 HM.out)
            have HK2 : Hid (∀ k, n ≤ k → (swp m i j).getD k (0, 0) = l.getD k (0, 0)) := Lib.hid (by
              intro k hk
              have h1 := HJ.out
              rw [swp_at m i j k him hm2, if_neg (by omega), if_neg (by omega)]
              exact HK.out k hk)
            clear hk2
            refine CL.out.mono ?_
            rintro e w2 ⟨rfl, d2, rfl⟩
            have HH1 := Lib.hid (HHx.out.drewN d2)
            have CS := Lib.hid (swap_any g c m i j B (wx.drewN d2) (by rw [hml]; exact HH1.out.own) him hm2)
            rw [hml] at CS
            have mS : ∀ z, (Go.method (z + 1) 68 (.pointer (some ⟨b, 0, none⟩)) "Swap").run Try.prog (wx.drewN d2) = .ok (124, .slice (some ⟨g, 0, none⟩) l.length c) (wx.drewN d2) := fun z => methodSwap z b _ _ HH1.out.cell
            clear mL
            go_wp2_with fail
            refine CS.out.mono ?_
            rintro e w3 ⟨rfl, ho, hg⟩
            have HH2 := Lib.hid (HH1.out.row hg ho)
            have HG2 := Lib.hid ((HGx.out.trans (grownBy_drewN _ d2 _)).trans hg)
            have HPM := Lib.hid ((swp_perm m i j him hm2).trans HP.out)
            clear mS ho hg
            go_wp2_with fail
            go_roundw
            case rel => exact ⟨j, swp m i j, rfl, by have := HJ.out; omega, HPM, HD2, HK2, HH2, HG2⟩
            case measure => have := HJ.out; simp [intOf]; omega
          · rw [decide_eq_false hk2] at CL
            have HE := Lib.hid (HD.out.done fun q q0 q1 q2 => by have := HM.out q q0 q1 q2; omega)
            clear hk2
            refine CL.out.mono ?_
            rintro e w2 ⟨rfl, d2, rfl⟩
            have HH1 := Lib.hid (HHx.out.drewN d2)
            clear mL
            go_wp2_with fail
            go_ret
            exact ⟨⟨_, rfl⟩, HGx.out.trans (grownBy_drewN _ d2 _), m, HP.out, HE.out, HK.out, HH1.out⟩
        · rw [decide_eq_false hk] at CL
          have HM : Hid (∀ q, 0 < q → q < n → (q - 1) / 2 = i → kl m j1 ≤ kl m q) := Lib.hid fun q q0 q1 q2 => by
            have h1 := HJ1.out; have h2 := HJ2.out
            rcases kid q2 q0 with e | e
            · rw [e, ← h1]; omega
            · rw [e, ← h2]; omega
          have HJ : Hid (j1 < n ∧ 0 < j1 ∧ (j1 - 1) / 2 = i) := Lib.hid (by have := HJ1.out; omega)
          clear hk
          go_wp2_with fail
          refine CL.out.mono ?_
          rintro e w1 ⟨rfl, d, rfl⟩
          have HHx := Lib.hid (HH.out.drewN d)
          have HGx := Lib.hid (HG.out.trans (grownBy_drewN _ d _))
          clear mL CL hd1 hd2 hneg hneg2 hw1 hw2 ha hb
          generalize wr.drewN d = wx at HHx HGx ⊢
          have mL : ∀ z, (Go.method (z + 1) 68 (.pointer (some ⟨b, 0, none⟩)) "Less").run Try.prog wx = .ok (121, .slice (some ⟨g, 0, none⟩) l.length c) wx := fun z => methodLess z b _ _ HHx.out.cell
          have CL := Lib.hid (less_any g c m j1 i B wx (by rw [hml]; exact HHx.out.own) hm1 him)
          rw [hml] at CL
          go_wp2_with fail
          generalize hj : j1 = j at CL HJ HM hm1 ⊢
          clear hj
          by_cases hk2 : kl m j < kl m i
          · rw [decide_eq_true hk2] at CL
            have HD2 := Lib.hid (HD.out.swap (by omega) HJ.out.1 HJ.out.2.1 HJ.out.2.2 hk2 HM.out)
            have HK2 : Hid (∀ k, n ≤ k → (swp m i j).getD k (0, 0) = l.getD k (0, 0)) := Lib.hid (by
              intro k hk
              have h1 := HJ.out
              rw [swp_at m i j k him hm1, if_neg (by omega), if_neg (by omega)]
              exact HK.out k hk)
            clear hk2
            refine CL.out.mono ?_
            rintro e w2 ⟨rfl, d2, rfl⟩
            have HH1 := Lib.hid (HHx.out.drewN d2)
            have CS := Lib.hid (swap_any g c m i j B (wx.drewN d2) (by rw [hml]; exact HH1.out.own) him hm1)
            rw [hml] at CS
            have mS : ∀ z, (Go.method (z + 1) 68 (.pointer (some ⟨b, 0, none⟩)) "Swap").run Try.prog (wx.drewN d2) = .ok (124, .slice (some ⟨g, 0, none⟩) l.length c) (wx.drewN d2) := fun z => methodSwap z b _ _ HH1.out.cell
            clear mL
            go_wp2_with fail
            refine CS.out.mono ?_
            rintro e w3 ⟨rfl, ho, hg⟩
            have HH2 := Lib.hid (HH1.out.row hg ho)
            have HG2 := Lib.hid ((HGx.out.trans (grownBy_drewN _ d2 _)).trans hg)
            have HPM := Lib.hid ((swp_perm m i j him hm1).trans HP.out)
            clear mS ho hg
            go_wp2_with fail
            go_roundw
            case rel => exact ⟨j, swp m i j, rfl, by have := HJ.out; omega, HPM, HD2, HK2, HH2, HG2⟩
            case measure => have := HJ.out; simp [intOf]; omega
          · rw [decide_eq_false hk2] at CL
            have HE := Lib.hid (HD.out.done fun q q0 q1 q2 => by have := HM.out q q0 q1 q2; omega)
            clear hk2
            refine CL.out.mono ?_
            rintro e w2 ⟨rfl, d2, rfl⟩
            have HH1 := Lib.hid (HHx.out.drewN d2)
            clear mL
            go_wp2_with fail
            go_ret
            exact ⟨⟨_, rfl⟩, HGx.out.trans (grownBy_drewN _ d2 _), m, HP.out, HE.out, HK.out, HH1.out⟩
      · have hd2 : ¬ (j2 : Int) < (n : Int) := by omega
        have HM : Hid (∀ q, 0 < q → q < n → (q - 1) / 2 = i → kl m j1 ≤ kl m q) := Lib.hid fun q q0 q1 q2 => by
          have h1 := HJ1.out; have h2 := HJ2.out
          rcases kid q2 q0 with e | e
          · rw [e, ← h1]; omega
          · omega
        have HJ : Hid (j1 < n ∧ 0 < j1 ∧ (j1 - 1) / 2 = i) := Lib.hid (by have := HJ1.out; omega)
        clear mL
        have HHx := HH
        have HGx := HG
        have CL := Lib.hid (less_any g c m j1 i B wr (by rw [hml]; exact HHx.out.own) hm1 him)
        rw [hml] at CL
        have mL : ∀ z, (Go.method (z + 1) 68 (.pointer (some ⟨b, 0, none⟩)) "Less").run Try.prog wr = .ok (121, .slice (some ⟨g, 0, none⟩) l.length c) wr := fun z => methodLess z b _ _ HHx.out.cell
        go_wp2_with fail
        generalize hj : j1 = j at CL HJ HM hm1 ⊢
        clear hj
        by_cases hk2 : kl m j < kl m i
        · rw [decide_eq_true hk2] at CL
          have HD2 := Lib.hid (HD.out.swap (by omega) HJ.out.1 HJ.out.2.1 HJ.out.2.2 hk2 HM.out)
          have HK2 : Hid (∀ k, n ≤ k → (swp m i j).getD k (0, 0) = l.getD k (0, 0)) := Lib.hid (by
            intro k hk
            have h1 := HJ.out
            rw [swp_at m i j k him hm1, if_neg (by omega), if_neg (by omega)]
            exact HK.out k hk)
          clear hk2
          refine CL.out.mono ?_
          rintro e w2 ⟨rfl, d2, rfl⟩
          have HH1 := Lib.hid (HHx.out.drewN d2)
          have CS := Lib.hid (swap_any g c m i j B (wr.drewN d2) (by rw [hml]; exact HH1.out.own) him hm1)
          rw [hml] at CS
          have mS : ∀ z, (Go.method (z + 1) 68 (.pointer (some ⟨b, 0, none⟩)) "Swap").run Try.prog (wr.drewN d2) = .ok (124, .slice (some ⟨g, 0, none⟩) l.length c) (wr.drewN d2) := fun z => methodSwap z b _ _ HH1.out.cell
          clear mL
          go_wp2_with fail
          refine CS.out.mono ?_
          rintro e w3 ⟨rfl, ho, hg⟩
          have HH2 := Lib.hid (HH1.out.row hg ho)
          have HG2 := Lib.hid ((HGx.out.trans (grownBy_drewN _ d2 _)).trans hg)
          have HPM := Lib.hid ((swp_perm m i j him hm1).trans HP.out)
          clear mS ho hg
          go_wp2_with fail
          go_roundw
          case rel => exact ⟨j, swp m i j, rfl, by have := HJ.out; omega, HPM, HD2, HK2, HH2, HG2⟩
          case measure => have := HJ.out; simp [intOf]; omega
        · rw [decide_eq_false hk2] at CL
          have HE := Lib.hid (HD.out.done fun q q0 q1 q2 => by have := HM.out q q0 q1 q2; omega)
          clear hk2
          refine CL.out.mono ?_
          rintro e w2 ⟨rfl, d2, rfl⟩
          have HH1 := Lib.hid (HHx.out.drewN d2)
          clear mL
          go_wp2_with fail
          go_ret
          exact ⟨⟨_, rfl⟩, HGx.out.trans (grownBy_drewN _ d2 _), m, HP.out, HE.out, HK.out, HH1.out⟩


end Go.Proofs.Ytlhjhdlpejpooab
