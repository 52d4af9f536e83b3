/- The laws FnLossSend, FnLossSendFull: plain facts, what the walks share. -/
import Derived.Test.YtpbkhlkhnjmacaaSameLs
import Derived.Test.YtpbkhlkhnjmacaaDrLt
import Derived.Test.YtpbkhlkhnjmacaaIVs
import Derived.Test.YtpbkhlkhnjmacaaSLw
namespace Go.Proofs.Ytpbkhlkhnjmacaa
open Go.RowKit
set_option linter.unusedVariables false
set_option linter.unusedSimpArgs false

theorem lsendv_true {n g t z rn rg ri : Int} {l rl : List Pk} (h : lsendv (n, l, g) t z = ((rn, rl, rg), ri, true)) : ri = n ∧ rn = n + 1 ∧ rl = l ++ [(n, t, z)] ∧ rg = g ∧ lok (rn, rl, rg) ∧ lok (n, l, g) ∧ (0 ≤ t ∧ t ≤ 999) ∧ (1 ≤ z ∧ z ≤ 99) ∧ ¬ lfull (n, l, g) t := by
  by_cases hc : lok (n, l, g) ∧ (0 ≤ t ∧ t ≤ 999) ∧ (1 ≤ z ∧ z ≤ 99)
  · have e : lsendv (n, l, g) t z = lsend (n, l, g) t z := by unfold lsendv; rw [if_pos hc]
    have hk := lsend_ok hc.1 hc.2.1 hc.2.2
    rw [← e, h] at hk
    rw [e] at h
    by_cases hf : lfull (n, l, g) t
    · rw [lsend_no hf] at h; simp at h
    · rw [lsend_yes hf] at h
      simp only [Prod.mk.injEq, and_true] at h
      obtain ⟨⟨h1, h2, h3⟩, h4⟩ := h
      exact ⟨h4.symm, h1.symm, h2.symm, h3.symm, hk, hc.1, hc.2.1, hc.2.2, hf⟩
  · have e : lsendv (n, l, g) t z = ((0, [], 0), 0, false) := by unfold lsendv; rw [if_neg hc]
    rw [e] at h; simp at h
theorem lsendv_false {n g t z rn rg ri : Int} {l rl : List Pk} (h : lsendv (n, l, g) t z = ((rn, rl, rg), ri, false)) (hc : lok (n, l, g) ∧ (0 ≤ t ∧ t ≤ 999) ∧ (1 ≤ z ∧ z ≤ 99)) : lfull (n, l, g) t ∧ rn = n ∧ rl = l ∧ rg = g ∧ ri = -1 := by
  have e : lsendv (n, l, g) t z = lsend (n, l, g) t z := by unfold lsendv; rw [if_pos hc]
  rw [e] at h
  by_cases hf : lfull (n, l, g) t
  · rw [lsend_no hf] at h
    simp only [Prod.mk.injEq, and_true] at h
    exact ⟨hf, h.1.1.symm, h.1.2.1.symm, h.1.2.2.symm, h.2.symm⟩
  · rw [lsend_yes hf] at h; simp at h
theorem row_time {W : World} {a : Option Addr} {c i : Nat} {l : List Pk} {ty : Int} (h : Pks W (.slice a l.length c) l) (hi : i < l.length) (ht : (l.getD i pkD).2.1 = ty) : ∃ g o, a = some ⟨g, o, none⟩ ∧ W.cell? ⟨g, o + i * 3 + 1, none⟩ = some (.int .i64 ty) := by
  obtain ⟨a', c', he, _, hC⟩ := h
  obtain ⟨g, o, ha, hc⟩ := hC (by rintro rfl; simp at hi)
  simp only [Value.slice.injEq, true_and] at he
  exact ⟨g, o, he.1.trans ha, by rw [← ht]; exact (hc i hi).2.1⟩
theorem lsendv_len {n g t z : Int} {l : List Pk} (h : l.length ≤ 12) : (lsendv (n, l, g) t z).1.2.1.length ≤ 13 := by
  by_cases hc : lok (n, l, g) ∧ (0 ≤ t ∧ t ≤ 999) ∧ (1 ≤ z ∧ z ≤ 99)
  · have e : lsendv (n, l, g) t z = lsend (n, l, g) t z := by unfold lsendv; rw [if_pos hc]
    rw [e]
    by_cases hf : lfull (n, l, g) t
    · rw [lsend_no hf]; show l.length ≤ 13; omega
    · rw [lsend_yes hf]; show (l ++ [(n, t, z)]).length ≤ 13; simp; omega
  · have e : lsendv (n, l, g) t z = ((0, [], 0), 0, false) := by unfold lsendv; rw [if_neg hc]
    rw [e]; simp

end Go.Proofs.Ytpbkhlkhnjmacaa
