/- What the laws of registers share: plain facts. -/
import Derived.Test.YtlhjhdlpejpooabRpMath
import Derived.Test.YtlhjhdlpejpooabBase
namespace Go.Proofs.Ytlhjhdlpejpooab
open Go.RowKit
set_option linter.unusedVariables false
set_option linter.unusedSimpArgs false

theorem rtryv_cases (r : Reg) (t : Tic) : (rtryv r t = ((0, []), false) ∧ ¬ (regok r ∧ tkvd t)) ∨ (regok r ∧ tkvd t ∧ rtryv r t = ((r.1, (rtry r t).1), (rtry r t).2) ∧ regok (r.1, (rtry r t).1)) := by
  by_cases h : regok r ∧ tkvd t
  · exact .inr ⟨h.1, h.2, rtryv_yes h, rtry_ok h.1 h.2⟩
  · exact .inl ⟨rtryv_no h, h⟩
theorem rtryv_len {r r' : Reg} {t : Tic} {q : Bool} (h : rtryv r t = (r', q)) : r'.2.length ≤ 8 := by
  rcases rtryv_cases r t with ⟨k, _⟩ | ⟨_, _, k, k2⟩
  · rw [k] at h; injection h with h1 h2; rw [← h1]; simp
  · rw [k] at h; injection h with h1 h2; rw [← h1]; exact k2.2.1
theorem rtryv_acc {r r' : Reg} {t : Tic} (h : rtryv r t = (r', true)) : regok r ∧ tkvd t ∧ trec r.1 t ∧ r.2.length < 8 ∧ t ∉ r.2 ∧ r' = (r.1, ins t r.2) ∧ regok r' := by
  rcases rtryv_cases r t with ⟨k, _⟩ | ⟨k0, k1, k, k2⟩
  · rw [k] at h; injection h with h1 h2; cases h2
  · rw [k] at h; injection h with h1 h2
    obtain ⟨a1, a2, a3, a4⟩ := rtry_acc h2
    exact ⟨k0, k1, a1, a2, a3, by rw [← h1, a4], by rw [← h1]; exact k2⟩
theorem rtryv_once {r r' : Reg} {t : Tic} (h : rtryv r t = (r', true)) : rtryv r' t = (r', false) := by
  obtain ⟨a0, a1, a2, a3, a4, rfl, a6⟩ := rtryv_acc h
  rw [rtryv_yes ⟨a6, a1⟩, rtry_no (.inr (.inr (mem_ins.2 (.inl rfl))))]
theorem rtryv_rej {r r' : Reg} {t : Tic} (h : rtryv r t = (r', false)) (hk : regok r ∧ tkvd t) : r' = r := by
  rcases rtryv_cases r t with ⟨_, k⟩ | ⟨_, _, k, _⟩
  · exact absurd hk k
  · rw [k] at h; injection h with h1 h2
    rw [← h1, rtry_rej h2]
theorem rtryv_order {r r1 r2 : Reg} {t u : Tic} (h1 : rtryv r t = (r1, true)) (h2 : rtryv r1 u = (r2, true)) : ∃ r3, rtryv r u = (r3, true) ∧ rtryv r3 t = (r2, true) := by
  obtain ⟨a0, a1, a2, a3, a4, rfl, a6⟩ := rtryv_acc h1
  obtain ⟨b0, b1, b2, b3, b4, rfl, b6⟩ := rtryv_acc h2
  have e1 : (rtry r t).2 = true := by have := h1; rw [rtryv_yes ⟨a0, a1⟩] at this; exact (Prod.mk.inj this).2
  have f1 : (rtry r t).1 = ins t r.2 := (rtry_acc e1).2.2.2
  have e2 : (rtry (r.1, (rtry r t).1) u).2 = true := by rw [f1]; have := h2; rw [rtryv_yes ⟨b0, b1⟩] at this; exact (Prod.mk.inj this).2
  obtain ⟨c1, c2, c3⟩ := rtry_order a0 e1 e2
  refine ⟨(r.1, (rtry r u).1), by rw [rtryv_yes ⟨a0, b1⟩, c1], ?_⟩
  rw [rtryv_yes ⟨rtry_ok a0 b1, a1⟩, c2, c3, f1, (rtry_acc (r := (r.1, ins t r.2)) (by rw [f1] at e2; exact e2)).2.2.2]

theorem rtickv_cases (r : Reg) (n : Int) : (rtickv r n = ((0, []), false) ∧ ¬ (regok r ∧ (r.1 ≤ n ∧ n ≤ 999))) ∨ (regok r ∧ (r.1 ≤ n ∧ n ≤ 999) ∧ rtickv r n = ((n, tick n r.2), true) ∧ regok (n, tick n r.2)) := by
  by_cases h : regok r ∧ (r.1 ≤ n ∧ n ≤ 999)
  · exact .inr ⟨h.1, h.2, rtickv_yes h, tick_ok h.1 h.2.1 h.2.2⟩
  · exact .inl ⟨rtickv_no h, h⟩
theorem rtickv_len {r r' : Reg} {n : Int} {q : Bool} (h : rtickv r n = (r', q)) : r'.2.length ≤ 8 := by
  rcases rtickv_cases r n with ⟨k, _⟩ | ⟨_, _, k, k2⟩
  · rw [k] at h; injection h with h1 h2; rw [← h1]; simp
  · rw [k] at h; injection h with h1 h2; rw [← h1]; exact k2.2.1
theorem rtickv_acc {r r' : Reg} {n : Int} (h : rtickv r n = (r', true)) : regok r ∧ (r.1 ≤ n ∧ n ≤ 999) ∧ r' = (n, tick n r.2) ∧ regok r' := by
  rcases rtickv_cases r n with ⟨k, _⟩ | ⟨k0, k1, k, k2⟩
  · rw [k] at h; injection h with h1 h2; cases h2
  · rw [k] at h; injection h with h1 h2
    exact ⟨k0, k1, h1.symm, by rw [← h1]; exact k2⟩
theorem rtickv_ticks {r r' : Reg} {n m : Int} (h : rtickv r n = (r', true)) (h1 : n ≤ m) (h2 : m ≤ 999) : rtickv r' m = ((m, tick m r.2), true) ∧ rtickv r m = ((m, tick m r.2), true) := by
  obtain ⟨a0, a1, rfl, a3⟩ := rtickv_acc h
  exact ⟨by rw [rtickv_yes ⟨a3, h1, h2⟩]; simp only [tick_tick h1], rtickv_yes ⟨a0, by omega, h2⟩⟩
theorem forget_no {r r' r'' : Reg} {n : Int} {t : Tic} {q : Bool} (h : rtickv r n = (r', true)) (ht : t ∈ r.2) (h2 : rtryv r' t = (r'', q)) : q = false := by
  obtain ⟨a0, a1, rfl, a3⟩ := rtickv_acc h
  have hk := (a0.2.2.1 t ht).1
  rw [rtryv_yes ⟨a3, hk⟩, rtry_forget ht] at h2
  exact (Prod.mk.inj h2).2.symm

end Go.Proofs.Ytlhjhdlpejpooab
