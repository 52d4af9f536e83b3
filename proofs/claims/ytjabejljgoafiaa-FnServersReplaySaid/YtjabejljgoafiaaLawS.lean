/- What the laws of servers share: plain facts of stry; where the drawn arguments stand. -/
import Derived.Test.YtjabejljgoafiaaDrSv
import Derived.Test.YtjabejljgoafiaaSameRgs
import Derived.Test.YtjabejljgoafiaaISv
namespace Go.Proofs.Ytjabejljgoafiaa
open Go.RowKit
set_option linter.unusedVariables false
set_option linter.unusedSimpArgs false

theorem set_self (L : List Reg) (k : Nat) (h : k < L.length) (r : Reg) (hr : r = L.getD k rgD) : L.set k r = L := by
  subst hr
  refine regs_ext (by simp) fun i hi => ?_
  rw [getD_setR L k i _ h]
  by_cases e : i = k
  · rw [if_pos e, e]
  · rw [if_neg e]
theorem stry_len {L : List Reg} {i : Int} {t : Tic} (hl : L.length ≤ 4) (hlen : ∀ r ∈ L, r.2.length ≤ 9) : (stry L i t).1.length ≤ 4 ∧ ∀ r ∈ (stry L i t).1, r.2.length ≤ 9 := by
  by_cases h : sok L ∧ tkvd t ∧ (0 ≤ i ∧ i < L.length)
  · by_cases hh : i = home L.length t
    · rw [stry_home h hh]
      refine ⟨by simpa using hl, fun r hr => ?_⟩
      rcases List.mem_or_eq_of_mem_set hr with k | rfl
      · exact hlen r k
      · have hi : i.toNat < L.length := by omega
        have := (rtry_ok (h.1.2 _ (takeRg L i.toNat hi).2) h.2.1).2.1
        exact Nat.le_succ_of_le this
    · rw [stry_away h hh]; exact ⟨hl, hlen⟩
  · rw [stry_no h]; exact ⟨by simp, fun r hr => by cases hr⟩
theorem stry_good {L : List Reg} {i : Int} {t : Tic} (h : sok L ∧ tkvd t ∧ (0 ≤ i ∧ i < L.length)) (hq : (stry L i t).2 = false) : (stry L i t).1 = L := by
  by_cases hh : i = home L.length t
  · rw [stry_home h hh] at hq ⊢
    simp only at hq ⊢
    exact set_self L _ (by omega) _ (by rw [rtry_rej hq])
  · rw [stry_away h hh]
theorem stry_some {L : List Reg} {i : Int} {t : Tic} (hn : (stry L i t).1 ≠ []) : sok L ∧ tkvd t ∧ (0 ≤ i ∧ i < L.length) := by
  by_cases h : sok L ∧ tkvd t ∧ (0 ≤ i ∧ i < L.length)
  · exact h
  · rw [stry_no h] at hn; exact absurd rfl hn
theorem stry_acc {L : List Reg} {i : Int} {t : Tic} (h : (stry L i t).2 = true) : (sok L ∧ tkvd t ∧ (0 ≤ i ∧ i < L.length)) ∧ i = home L.length t ∧ (stry L i t).1.length = L.length ∧ (∀ j : Nat, (j : Int) ≠ i → j < L.length → (stry L i t).1.getD j rgD = L.getD j rgD) ∧ sok (stry L i t).1 ∧ ∀ k : Nat, k < L.length → stry (stry L i t).1 (k : Int) t = ((stry L i t).1, false) := by
  by_cases hg : sok L ∧ tkvd t ∧ (0 ≤ i ∧ i < L.length)
  · by_cases hh : i = home L.length t
    · have hi : i.toNat < L.length := by omega
      have hr := (takeRg L i.toNat hi).2
      rw [stry_home hg hh] at h ⊢
      simp only at h ⊢
      have ho := rtry_once h
      have hok := rtry_ok (hg.1.2 _ hr) hg.2.1
      generalize hL' : L.set i.toNat ((L.getD i.toNat rgD).1, (rtry (L.getD i.toNat rgD) t).1) = L'
      have hlen : L'.length = L.length := by rw [← hL', List.length_set]
      have hs : sok L' := ⟨by rw [hlen]; exact hg.1.1, fun r hr => by
        rw [← hL'] at hr
        rcases List.mem_or_eq_of_mem_set hr with k | rfl
        · exact hg.1.2 r k
        · exact hok⟩
      refine ⟨hg, hh, hlen, fun j hj hjl => ?_, hs, fun k hk => ?_⟩
      · rw [← hL', getD_setR L _ j _ hi, if_neg (by omega)]
      · have hg' : sok L' ∧ tkvd t ∧ (0 ≤ (k : Int) ∧ (k : Int) < L'.length) := ⟨hs, hg.2.1, by omega, by omega⟩
        by_cases hk2 : (k : Int) = home L'.length t
        · have hkp : k = i.toNat := by rw [hlen] at hk2; omega
          have e : L'.getD k rgD = ((L.getD i.toNat rgD).1, (rtry (L.getD i.toNat rgD) t).1) := by rw [← hL', getD_setR L _ k _ hi, if_pos hkp]
          rw [stry_home hg' hk2, show (k : Int).toNat = k from by omega, e, ho]
          rw [set_self L' k (by omega) _ e.symm]
        · rw [stry_away hg' hk2]
    · rw [stry_away hg hh] at h; cases h
  · rw [stry_no hg] at h; cases h

/-- The drawn arguments in their variables. -/
structure LS (w W : World) (tb : Nat) (v : Value) (L : List Reg) (x y : Int) : Prop where
  bel : Below w.heap.size w W
  r : Rgs True W v L
  t : RgV W tb x (.int .i64 y)
theorem LS.below {w W W' : World} {tb : Nat} {v : Value} {L : List Reg} {x y : Int} (h : LS w W tb v L x y) (hb : Below W.heap.size W W') : LS w W' tb v L x y :=
  ⟨h.bel.trans (hb.mono h.bel.size), h.r.below hb, h.t.below hb⟩
theorem LS.start {w w1 : World} {x y : Int} {v : Value} {L : List Reg} (hb : Below w.heap.size w w1) (hr : Rgs True w1 v L) (T : TypeId) : LS w (w1.alloc (.cells #[.int .i64 x, .int .i64 y] T)) w1.heap.size v L x y :=
  ⟨hb.alloc hb.size _, hr.below ((Below.refl _ _).alloc (Nat.le_refl _) _), RgV.new _ x _ _⟩

end Go.Proofs.Ytjabejljgoafiaa
