/- Chapter 3, plain numbers. -/
import Derived.Test.YtppeacpklcdggaaBase
namespace Go.Proofs.Ytppeacpklcdggaa
set_option linter.unusedVariables false
set_option linter.unusedSimpArgs false

/-- How many values b bits have, or 0. -/
def nsz (b : Int) : Int := if b = 4 then 16 else if b = 8 then 256 else if b = 12 then 4096 else 0
def nbOk (f a : Int) : Prop := 0 ≤ f ∧ f ≤ 999 ∧ -1 ≤ a ∧ a ≤ f - 1
instance (f a : Int) : Decidable (nbOk f a) := by unfold nbOk; infer_instance
def nbits (f a : Int) : Int := if nbOk f a then (if 2 * (f - a) < 16 then 4 else if 2 * (f - a) < 256 then 8 else 12) else 0
def ntrunc (f b : Int) : Int := if 0 ≤ f ∧ f ≤ 999 ∧ nsz b ≠ 0 then f % nsz b else -1
def nexp (g v b : Int) : Int :=
  if -1 ≤ g ∧ g ≤ 999 ∧ 0 ≤ v ∧ v ≤ nsz b - 1 then
    (if g + 1 - (g + 1) % nsz b + v ≤ g + 1 - nsz b / 2 then g + 1 - (g + 1) % nsz b + v + nsz b
     else if g + 1 + nsz b / 2 < g + 1 - (g + 1) % nsz b + v ∧ nsz b ≤ g + 1 - (g + 1) % nsz b + v then g + 1 - (g + 1) % nsz b + v - nsz b
     else g + 1 - (g + 1) % nsz b + v)
  else -1
theorem nsz_cases (b : Int) : (b = 4 ∧ nsz b = 16) ∨ (b = 8 ∧ nsz b = 256) ∨ (b = 12 ∧ nsz b = 4096) ∨ (b ≠ 4 ∧ b ≠ 8 ∧ b ≠ 12 ∧ nsz b = 0) := by
  unfold nsz; split
  · exact .inl ⟨‹_›, rfl⟩
  · split
    · exact .inr (.inl ⟨‹_›, rfl⟩)
    · split
      · exact .inr (.inr (.inl ⟨‹_›, rfl⟩))
      · exact .inr (.inr (.inr ⟨‹_›, ‹_›, ‹_›, rfl⟩))
theorem nbits_cases (f a : Int) : (nbits f a = 0 ∧ ¬ nbOk f a) ∨ (nbOk f a ∧ ((nbits f a = 4 ∧ 2 * (f - a) < 16) ∨ (nbits f a = 8 ∧ 16 ≤ 2 * (f - a) ∧ 2 * (f - a) < 256) ∨ (nbits f a = 12 ∧ 256 ≤ 2 * (f - a) ∧ 2 * (f - a) < 4096))) := by
  unfold nbits
  split
  · rename_i h
    refine .inr ⟨h, ?_⟩
    unfold nbOk at h
    split
    · exact .inl ⟨rfl, ‹_›⟩
    · split
      · exact .inr (.inl ⟨rfl, by omega, by omega⟩)
      · exact .inr (.inr ⟨rfl, by omega, by omega⟩)
  · exact .inl ⟨rfl, ‹_›⟩
theorem ntrunc_ok {f b : Int} (h0 : 0 ≤ f) (h9 : f ≤ 999) (hb : nsz b ≠ 0) : ntrunc f b = f % nsz b := by
  unfold ntrunc; rw [if_pos ⟨h0, h9, hb⟩]
theorem ntrunc_parts {f b : Int} (h : 0 ≤ ntrunc f b) : 0 ≤ f ∧ f ≤ 999 ∧ nsz b ≠ 0 ∧ ntrunc f b = f % nsz b := by
  unfold ntrunc at h ⊢
  split at h
  · rename_i k; rw [if_pos k]; exact ⟨k.1, k.2.1, k.2.2, rfl⟩
  · omega
/-- The number is recovered by whoever expects one not too far off. -/
theorem nexp_back {g f b : Int} (hg : -1 ≤ g) (hg9 : g ≤ 999) (h0 : 0 ≤ f) (h9 : f ≤ 999) (hb : nsz b ≠ 0) (hlo : g + 1 - nsz b / 2 < f) (hhi : f ≤ g + 1 + nsz b / 2) : nexp g (ntrunc f b) b = f := by
  rw [ntrunc_ok h0 h9 hb]
  unfold nexp
  rcases nsz_cases b with ⟨_, h⟩ | ⟨_, h⟩ | ⟨_, h⟩ | ⟨_, _, _, h⟩ <;> rw [h] at hlo hhi ⊢
  · rw [if_pos (by omega)]; split
    · omega
    · split <;> omega
  · rw [if_pos (by omega)]; split
    · omega
    · split <;> omega
  · rw [if_pos (by omega)]; split
    · omega
    · split <;> omega
  · exact absurd h hb
/-- P24 and P31: b at least the number of bits. -/
theorem nexp_round {f a g b : Int} (h : nbits f a ≠ 0) (hb : b = nbits f a ∨ (b = nbits f a + 4 ∧ nbits f a ≠ 12)) (h1 : a ≤ g) (h2 : g ≤ f - 1) : nexp g (ntrunc f b) b = f := by
  rcases nbits_cases f a with ⟨h0, _⟩ | ⟨hk, hc⟩
  · exact absurd h0 h
  · unfold nbOk at hk
    have e4 : nsz 4 = 16 := rfl
    have e8 : nsz 8 = 256 := rfl
    have e12 : nsz 12 = 4096 := rfl
    rcases hc with ⟨hn, hd⟩ | ⟨hn, _, hd⟩ | ⟨hn, _, hd⟩ <;> rw [hn] at hb
    · rcases hb with rfl | ⟨rfl, _⟩
      · exact nexp_back (by omega) (by omega) (by omega) (by omega) (by rw [e4]; omega) (by rw [e4]; omega) (by rw [e4]; omega)
      · show nexp g (ntrunc f 8) 8 = f
        exact nexp_back (by omega) (by omega) (by omega) (by omega) (by rw [e8]; omega) (by rw [e8]; omega) (by rw [e8]; omega)
    · rcases hb with rfl | ⟨rfl, _⟩
      · exact nexp_back (by omega) (by omega) (by omega) (by omega) (by rw [e8]; omega) (by rw [e8]; omega) (by rw [e8]; omega)
      · show nexp g (ntrunc f 12) 12 = f
        exact nexp_back (by omega) (by omega) (by omega) (by omega) (by rw [e12]; omega) (by rw [e12]; omega) (by rw [e12]; omega)
    · rcases hb with rfl | ⟨rfl, hx⟩
      · exact nexp_back (by omega) (by omega) (by omega) (by omega) (by rw [e12]; omega) (by rw [e12]; omega) (by rw [e12]; omega)
      · exact absurd rfl hx
/-- P25. -/
theorem nexp_late {f b m : Int} (h : 0 ≤ ntrunc f b) (hm : 0 ≤ m) (hm2 : m < (if 4 < b then 128 else 8) - 1) : nexp (min (f + m) 999) (ntrunc f b) b = f := by
  obtain ⟨h0, h9, hb, _⟩ := ntrunc_parts h
  rcases nsz_cases b with ⟨hb', h⟩ | ⟨hb', h⟩ | ⟨hb', h⟩ | ⟨_, _, _, h⟩
  · rw [if_neg (by omega)] at hm2; exact nexp_back (by omega) (by omega) h0 h9 hb (by rw [h]; omega) (by rw [h]; omega)
  · rw [if_pos (by omega)] at hm2; exact nexp_back (by omega) (by omega) h0 h9 hb (by rw [h]; omega) (by rw [h]; omega)
  · rw [if_pos (by omega)] at hm2; exact nexp_back (by omega) (by omega) h0 h9 hb (by rw [h]; omega) (by rw [h]; omega)
  · exact absurd h hb
/-- P27. -/
theorem nbits_order {f a : Int} (h : nbits f a ≠ 0) (ha : 0 ≤ a) : nbits f a ≤ nbits f (a - 1) := by
  rcases nbits_cases f a with ⟨h0, _⟩ | ⟨hk, hc⟩
  · exact absurd h0 h
  · unfold nbOk at hk
    rcases nbits_cases f (a - 1) with ⟨_, h0⟩ | ⟨_, hd⟩
    · exact absurd (by unfold nbOk; omega) h0
    · omega
/-- P28. -/
theorem ntrunc_last {f b : Int} (h : 0 ≤ ntrunc f b) : ntrunc f b < nsz b ∧ (f - ntrunc f b) % nsz b = 0 := by
  obtain ⟨h0, h9, hb, he⟩ := ntrunc_parts h
  rw [he]
  rcases nsz_cases b with ⟨_, h⟩ | ⟨_, h⟩ | ⟨_, h⟩ | ⟨_, _, _, h⟩
  · rw [h]; omega
  · rw [h]; omega
  · rw [h]; omega
  · exact absurd h hb
theorem nexp_parts {g v b : Int} (h : 0 ≤ nexp g v b) : -1 ≤ g ∧ g ≤ 999 ∧ 0 ≤ v ∧ v ≤ nsz b - 1 := by
  unfold nexp at h
  split at h
  · assumption
  · omega
/-- P29. -/
theorem nexp_near {g v b : Int} (h : 0 ≤ nexp g v b) : nexp g v b % nsz b = v ∧ g + 1 - nsz b / 2 < nexp g v b ∧ (nexp g v b = v ∨ nexp g v b ≤ g + 1 + nsz b / 2) := by
  have hp := nexp_parts h
  unfold nexp
  rw [if_pos hp]
  rcases nsz_cases b with ⟨_, h⟩ | ⟨_, h⟩ | ⟨_, h⟩ | ⟨_, _, _, h⟩ <;> rw [h] at hp ⊢
  · split
    · omega
    · split <;> omega
  · split
    · omega
    · split <;> omega
  · split
    · omega
    · split <;> omega
  · omega
/-- P30. -/
theorem nexp_shift {g v b : Int} (h : 0 ≤ nexp g v b) (h1 : nsz b ≤ g) (h2 : g + nsz b ≤ 999) : nexp (g + nsz b) v b = nexp g v b + nsz b := by
  have hp := nexp_parts h
  unfold nexp
  rw [if_pos hp]
  rcases nsz_cases b with ⟨_, h⟩ | ⟨_, h⟩ | ⟨_, h⟩ | ⟨_, _, _, h⟩ <;> rw [h] at hp h1 h2 ⊢
  · rw [if_pos (by omega)]; repeat' split
    all_goals omega
  · rw [if_pos (by omega)]; repeat' split
    all_goals omega
  · omega
  · omega
theorem nexp_bnd (g v b : Int) : -1 ≤ nexp g v b ∧ nexp g v b ≤ 20000 := by
  unfold nexp
  split
  · rename_i hp
    rcases nsz_cases b with ⟨_, h⟩ | ⟨_, h⟩ | ⟨_, h⟩ | ⟨_, _, _, h⟩ <;> rw [h] at hp ⊢
    · repeat' split
      all_goals omega
    · repeat' split
      all_goals omega
    · repeat' split
      all_goals omega
    · omega
  · omega
theorem ntrunc_bnd (f b : Int) : -1 ≤ ntrunc f b ∧ ntrunc f b ≤ 999 := by
  by_cases h : 0 ≤ ntrunc f b
  · obtain ⟨h0, h9, hb, he⟩ := ntrunc_parts h
    rw [he] at h ⊢
    rcases nsz_cases b with ⟨_, e⟩ | ⟨_, e⟩ | ⟨_, e⟩ | ⟨_, _, _, e⟩ <;> rw [e] at h ⊢ <;> omega
  · unfold ntrunc at h ⊢
    split at h
    · rename_i k; have := nsz_cases b; rcases this with ⟨_, e⟩ | ⟨_, e⟩ | ⟨_, e⟩ | ⟨_, _, _, e⟩ <;> rw [e] at h <;> omega
    · rw [if_neg ‹_›]; omega
theorem nbits_bnd (f a : Int) : 0 ≤ nbits f a ∧ nbits f a ≤ 12 := by
  rcases nbits_cases f a with ⟨h0, _⟩ | ⟨_, hc⟩ <;> omega

end Go.Proofs.Ytppeacpklcdggaa
