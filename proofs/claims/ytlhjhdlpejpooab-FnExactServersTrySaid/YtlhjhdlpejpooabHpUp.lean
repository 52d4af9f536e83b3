/- container/heap's up and down over the program's heap. -/
import Derived.Test.YtlhjhdlpejpooabHp
namespace Go.Proofs.Ytlhjhdlpejpooab
open Go.RowKit
set_option linter.unusedVariables false
set_option linter.unusedSimpArgs false

/-- Where a heap stands: its variable's block b, the slice v in it, its tickets l. -/
structure Hs (B : Nat) (W : World) (b : Nat) (v : Value) (l : List Tic) : Prop where
  bb : B ≤ b
  cell : W.cell? ⟨b, 0, none⟩ = some v
  soft : W.frozen? ⟨b, 0, none⟩ = false
  own : OwnTc W B v l
  ne : v.ownBlock ≠ some b
theorem Hs.lt {B : Nat} {W : World} {b : Nat} {v : Value} {l : List Tic} (h : Hs B W b v l) : b < W.heap.size := World.block_lt_of_cell? W _ h.cell
theorem Hs.below {B : Nat} {W W' : World} {b : Nat} {v : Value} {l : List Tic} (h : Hs B W b v l) (hb : Below W.heap.size W W') : Hs B W' b v l :=
  ⟨h.bb, (hb.cell h.lt).trans h.cell, (hb.frozen (p := ⟨b, 0, none⟩) h.lt).trans h.soft, h.own.below hb, h.ne⟩
theorem Hs.row {B : Nat} {W W' : World} {b g n c : Nat} {l l' : List Tic} (h : Hs B W b (.slice (some ⟨g, 0, none⟩) n c) l) (hg : W.grownBy W' (some g)) (ho : OwnTc W' B (.slice (some ⟨g, 0, none⟩) n c) l') : Hs B W' b (.slice (some ⟨g, 0, none⟩) n c) l' :=
  ⟨h.bb, hg.cell h.cell (fun e => h.ne e.symm), (hg.frozen_far ⟨b, 0, none⟩ h.lt (fun e => h.ne e.symm)).trans h.soft, ho, h.ne⟩
theorem Hs.drewN {B : Nat} {W : World} {b : Nat} {v : Value} {l : List Tic} (h : Hs B W b v l) (n : Nat) : Hs B (W.drewN n) b v l := h.below (below_drewN' (Below.refl _ _) n)
theorem grownBy_drewN (w : World) (n : Nat) (row : Option Nat) : w.grownBy (w.drewN n) row := ⟨rfl, rfl, rfl, Nat.le_refl _, fun _ _ _ => rfl⟩

set_option maxRecDepth 100000 in
set_option maxHeartbeats 2000000 in
theorem up_any (b g c : Nat) (l : List Tic) (j B : Nat) (W : World) (h : Hs B W b (.slice (some ⟨g, 0, none⟩) l.length c) l) (hu : UpI l j) (hj : j < l.length) (hl : l.length ≤ 1048576) :
    Calls Try.prog 83 #[.iface 68 (.pointer (some ⟨b, 0, none⟩)), .int .i64 (j : Int)] W fun e w' => e = .returned (.tuple #[]) ∧ W.grownBy w' (some g) ∧ ∃ l' : List Tic, l'.Perm l ∧ hok l' l'.length ∧ Hs B w' b (.slice (some ⟨g, 0, none⟩) l.length c) l' := by
  have H0 := Lib.hid h
  have U0 := Lib.hid hu
  clear h hu
  go_enter Try.func83, Try.ntmps83
  go_wp2_with fail
  go_loopw [1] (fun jv wr => ∃ (j : Nat) (m : List Tic), jv = .int .i64 (j : Int) ∧ j < m.length ∧ Hid (m.Perm l) ∧ Hid (UpI m j) ∧ Hid (Hs B wr b (.slice (some ⟨g, 0, none⟩) l.length c) m) ∧ Hid (W.grownBy wr (some g))) (fun jv _ => (intOf jv).toNat)
  case atStart => exact ⟨j, l, rfl, hj, List.Perm.refl _, U0, H0, World.grownBy.refl _ _⟩
  case round =>
    obtain ⟨i, m, rfl, him, HP, HU, HH, HG⟩ := hrel
    have hml : m.length = l.length := HP.out.length_eq
    by_cases h0 : i = 0
    · subst h0
      have HD := Lib.hid (HU.out.done (.inl rfl))
      go_wp2_with fail
      go_end0
      exact ⟨rfl, HG.out, m, HP.out, HD.out, HH.out⟩
    · obtain ⟨p, hp⟩ : ∃ p : Nat, p = (i - 1) / 2 := ⟨_, rfl⟩
      have hw1 : IntKind.i64.wrap ((i : Int) - 1) = (i : Int) - 1 := IntWalk.i64_in _ (by omega)
      have hw2 : Int.tdiv ((i : Int) - 1) 2 = (p : Int) := by rw [Int.tdiv_eq_ediv_of_nonneg (by omega)]; omega
      have hw3 : IntKind.i64.wrap (p : Int) = (p : Int) := IntWalk.i64_in _ (by omega)
      have hne : ((p : Int) == (i : Int)) = false := by rw [beq_eq_false_iff_ne]; omega
      have hne2 : ¬ (p : Int) = (i : Int) := by omega
      have hne3 : ¬ p = i := by omega
      have hpi : p < m.length := by omega
      have hpl : p < i := by omega
      have HP2 := Lib.hid hp
      clear hp
      have CL := Lib.hid (less_any g c m i p B wr (by rw [hml]; exact HH.out.own) him hpi)
      rw [hml] at CL
      have mL : ∀ n, (Go.method (n + 1) 68 (.pointer (some ⟨b, 0, none⟩)) "Less").run Try.prog wr = .ok (121, .slice (some ⟨g, 0, none⟩) l.length c) wr := fun n => methodLess n b _ _ HH.out.cell
      by_cases hk : kl m i < kl m p
      · rw [decide_eq_true hk] at CL
        have HU2 := Lib.hid (HU.out.swap him (by omega) (by rw [← HP2.out]; exact hk))
        rw [← HP2.out] at HU2
        clear hk
        go_wp2_with fail
        refine CL.out.mono ?_
        rintro e w1 ⟨rfl, d, rfl⟩
        have HH1 := Lib.hid (HH.out.drewN d)
        have CS := Lib.hid (swap_any g c m p i B (wr.drewN d) (by rw [hml]; exact HH1.out.own) hpi him)
        rw [hml] at CS
        have mS : ∀ n, (Go.method (n + 1) 68 (.pointer (some ⟨b, 0, none⟩)) "Swap").run Try.prog (wr.drewN d) = .ok (124, .slice (some ⟨g, 0, none⟩) l.length c) (wr.drewN d) := fun n => methodSwap n b _ _ HH1.out.cell
        clear mL
        go_wp2_with fail
        refine CS.out.mono ?_
        rintro e w2 ⟨rfl, ho, hg⟩
        have HH2 := Lib.hid (HH1.out.row hg ho)
        have HG2 := Lib.hid ((HG.out.trans (grownBy_drewN _ d _)).trans hg)
        have HPM := Lib.hid ((swp_perm m p i hpi him).trans HP.out)
        clear mS ho hg
        go_wp2_with fail
        go_roundw
        case rel => exact ⟨p, swp m p i, rfl, by rw [swp_len]; exact hpi, HPM, HU2, HH2, HG2⟩
        case measure => simp [intOf]; omega
      · rw [decide_eq_false hk] at CL
        have HD := Lib.hid (HU.out.done (.inr (by rw [← HP2.out]; exact hk)))
        clear hk
        go_wp2_with fail
        refine CL.out.mono ?_
        rintro e w1 ⟨rfl, d, rfl⟩
        have HH1 := Lib.hid (HH.out.drewN d)
        clear mL
        go_wp2_with fail
        go_end0
        exact ⟨rfl, HG.out.trans (grownBy_drewN _ d _), m, HP.out, HD.out, HH1.out⟩

end Go.Proofs.Ytlhjhdlpejpooab
