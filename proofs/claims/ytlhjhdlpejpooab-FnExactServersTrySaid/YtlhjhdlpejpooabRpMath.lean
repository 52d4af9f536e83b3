/- Chapter 13 in plain lists: tickets (identifier, time of issue), registers, what is accepted and what is forgotten. -/
import Derived.Test.YtlhjhdlpejpooabBase
namespace Go.Proofs.Ytlhjhdlpejpooab
open Go.RowKit
set_option linter.unusedVariables false
set_option linter.unusedSimpArgs false

abbrev Tic := Int × Int
abbrev Reg := Int × List Tic
/-- The order of tickets: by time of issue, then by identifier. -/
def TL (a b : Tic) : Prop := a.2 < b.2 ∨ (a.2 = b.2 ∧ a.1 < b.1)
instance (a b : Tic) : Decidable (TL a b) := by unfold TL; infer_instance
theorem TL.trans {a b c : Tic} (h : TL a b) (k : TL b c) : TL a c := by unfold TL at *; omega
theorem TL.irr (a : Tic) : ¬ TL a a := by unfold TL; omega
theorem TL.asym {a b : Tic} (h : TL a b) : ¬ TL b a := fun k => TL.irr a (h.trans k)
theorem TL.total (a b : Tic) : TL a b ∨ a = b ∨ TL b a := by
  obtain ⟨a1, a2⟩ := a
  obtain ⟨b1, b2⟩ := b
  unfold TL
  simp only [Prod.mk.injEq]
  omega
theorem TL.not_iff {a b : Tic} (h : ¬ TL a b) (hn : a ≠ b) : TL b a := by
  rcases TL.total a b with k | k | k
  · exact absurd k h
  · exact absurd k hn
  · exact k

def tkvd (t : Tic) : Prop := (0 ≤ t.1 ∧ t.1 ≤ 99) ∧ (0 ≤ t.2 ∧ t.2 ≤ 999)
instance (t : Tic) : Decidable (tkvd t) := by unfold tkvd; infer_instance
def trec (now : Int) (t : Tic) : Prop := now - 10 ≤ t.2 ∧ t.2 ≤ now
instance (now : Int) (t : Tic) : Decidable (trec now t) := by unfold trec; infer_instance
def regok (r : Reg) : Prop := (0 ≤ r.1 ∧ r.1 ≤ 999) ∧ r.2.length ≤ 8 ∧ (∀ t ∈ r.2, tkvd t ∧ trec r.1 t) ∧ r.2.Pairwise TL
instance (r : Reg) : Decidable (regok r) := by unfold regok; infer_instance

theorem pw_of_adj : ∀ (l : List Tic), (∀ k, k + 1 < l.length → TL (l.getD k (0, 0)) (l.getD (k + 1) (0, 0))) → l.Pairwise TL
  | [], _ => List.Pairwise.nil
  | [a], _ => List.pairwise_singleton _ _
  | a :: b :: r, h => by
    have ih := pw_of_adj (b :: r) fun k hk => by
      have := h (k + 1) (by simpa using hk)
      simpa using this
    have hab : TL a b := by simpa using h 0 (by simp)
    refine List.pairwise_cons.2 ⟨fun x hx => ?_, ih⟩
    rcases List.mem_cons.1 hx with rfl | hx
    · exact hab
    · exact hab.trans ((List.pairwise_cons.1 ih).1 x hx)
theorem adj_of_pw {l : List Tic} (h : l.Pairwise TL) (k : Nat) (hk : k + 1 < l.length) : TL (l.getD k (0, 0)) (l.getD (k + 1) (0, 0)) := by
  have := List.pairwise_iff_getElem.1 h k (k + 1) (by omega) hk (by omega)
  rwa [List.getD_eq_getElem?_getD, List.getD_eq_getElem?_getD, List.getElem?_eq_getElem hk, List.getElem?_eq_getElem (show k < l.length by omega)]

/-- Two ascending lists with the same tickets are one. -/
theorem asc_unique : ∀ {l m : List Tic}, l.Pairwise TL → m.Pairwise TL → (∀ x, x ∈ l ↔ x ∈ m) → l = m
  | [], [], _, _, _ => rfl
  | [], b :: m, _, _, h => absurd ((h b).2 (by simp)) (by simp)
  | a :: l, [], _, _, h => absurd ((h a).1 (by simp)) (by simp)
  | a :: l, b :: m, hl, hm, h => by
    obtain ⟨hl1, hl2⟩ := List.pairwise_cons.1 hl
    obtain ⟨hm1, hm2⟩ := List.pairwise_cons.1 hm
    have hab : a = b := by
      rcases List.mem_cons.1 ((h a).1 (by simp)) with k | k
      · exact k
      · rcases List.mem_cons.1 ((h b).2 (by simp)) with k2 | k2
        · exact k2.symm
        · exact absurd (hl1 b k2) (TL.asym (hm1 a k))
    subst hab
    have : l = m := asc_unique hl2 hm2 fun x => by
      constructor
      · intro hx
        rcases List.mem_cons.1 ((h x).1 (by simp [hx])) with k | k
        · subst k; exact absurd (hl1 x hx) (TL.irr x)
        · exact k
      · intro hx
        rcases List.mem_cons.1 ((h x).2 (by simp [hx])) with k | k
        · subst k; exact absurd (hm1 x hx) (TL.irr x)
        · exact k
    rw [this]

/-- What a tick keeps. -/
def tick (n : Int) (l : List Tic) : List Tic := l.filter fun t => decide (n - 10 ≤ t.2)
theorem mem_tick {n : Int} {l : List Tic} {t : Tic} : t ∈ tick n l ↔ t ∈ l ∧ n - 10 ≤ t.2 := by unfold tick; simp [List.mem_filter]
theorem tick_ok {r : Reg} {n : Int} (h : regok r) (h1 : r.1 ≤ n) (h2 : n ≤ 999) : regok (n, tick n r.2) := by
  obtain ⟨k1, k2, k3, k4⟩ := h
  refine ⟨⟨by show 0 ≤ n; omega, h2⟩, Nat.le_trans (List.length_filter_le _ _) k2, fun t ht => ?_, k4.filter _⟩
  obtain ⟨m1, m2⟩ := mem_tick.1 ht
  have := (k3 t m1).2
  exact ⟨(k3 t m1).1, m2, by unfold trec at this; show t.2 ≤ n; omega⟩
theorem tick_tick {n m : Int} (h : n ≤ m) (l : List Tic) : tick m (tick n l) = tick m l := by
  unfold tick
  rw [List.filter_filter]
  congr 1
  funext t
  rw [Bool.eq_iff_iff]
  simp only [Bool.and_eq_true, decide_eq_true_eq]
  omega

/-- A ticket laid in its place. -/
def ins (t : Tic) (l : List Tic) : List Tic := l.filter (fun x => decide (TL x t)) ++ t :: l.filter (fun x => !decide (TL x t))
theorem mem_ins {t x : Tic} {l : List Tic} : x ∈ ins t l ↔ x = t ∨ x ∈ l := by
  unfold ins
  simp only [List.mem_append, List.mem_cons, List.mem_filter, decide_eq_true_eq, Bool.not_eq_true', decide_eq_false_iff_not]
  constructor
  · rintro (⟨h, _⟩ | h | ⟨h, _⟩)
    · exact .inr h
    · exact .inl h
    · exact .inr h
  · rintro (h | h)
    · exact .inr (.inl h)
    · by_cases k : TL x t
      · exact .inl ⟨h, k⟩
      · exact .inr (.inr ⟨h, k⟩)
theorem ins_len (t : Tic) : ∀ l : List Tic, (ins t l).length = l.length + 1
  | [] => rfl
  | a :: l => by
    have ih := ins_len t l
    unfold ins at *
    simp only [List.length_append, List.length_cons] at *
    by_cases k : TL a t
    · rw [List.filter_cons_of_pos (by simpa using k), List.filter_cons_of_neg (by simpa using k)]
      simp only [List.length_cons]; omega
    · rw [List.filter_cons_of_neg (by simpa using k), List.filter_cons_of_pos (by simpa using k)]
      simp only [List.length_cons]; omega
theorem ins_asc {t : Tic} {l : List Tic} (h : l.Pairwise TL) (hn : t ∉ l) : (ins t l).Pairwise TL := by
  unfold ins
  rw [List.pairwise_append]
  refine ⟨h.filter _, ?_, ?_⟩
  · refine List.pairwise_cons.2 ⟨fun x hx => ?_, h.filter _⟩
    obtain ⟨m1, m2⟩ := List.mem_filter.1 hx
    exact TL.not_iff (by simpa using m2) (by rintro rfl; exact hn m1)
  · intro a ha b hb
    obtain ⟨a1, a2⟩ := List.mem_filter.1 ha
    have a2 : TL a t := by simpa using a2
    rcases List.mem_cons.1 hb with rfl | hb
    · exact a2
    · obtain ⟨b1, b2⟩ := List.mem_filter.1 hb
      exact a2.trans (TL.not_iff (by simpa using b2) (by rintro rfl; exact hn b1))
/-- A list parted at a place: what lies ahead comes before the ticket, what lies behind does not. -/
theorem ins_split {t : Tic} {a b : List Tic} (ha : ∀ x ∈ a, TL x t) (hb : ∀ x ∈ b, ¬ TL x t) : ins t (a ++ b) = a ++ t :: b := by
  unfold ins
  rw [List.filter_append, List.filter_append, List.filter_eq_self.2 (by simpa using ha), List.filter_eq_nil_iff.2 (by simpa using hb), List.filter_eq_nil_iff.2 (by simpa using ha), List.filter_eq_self.2 (by simpa using hb)]
  simp

/-- RegisterTry at a valid register and a ticket. -/
def rtry (r : Reg) (t : Tic) : List Tic × Bool := if ¬ trec r.1 t ∨ 8 ≤ r.2.length ∨ t ∈ r.2 then (r.2, false) else (ins t r.2, true)
theorem rtry_no {r : Reg} {t : Tic} (h : ¬ trec r.1 t ∨ 8 ≤ r.2.length ∨ t ∈ r.2) : rtry r t = (r.2, false) := by unfold rtry; rw [if_pos h]
theorem rtry_yes {r : Reg} {t : Tic} (h : ¬ (¬ trec r.1 t ∨ 8 ≤ r.2.length ∨ t ∈ r.2)) : rtry r t = (ins t r.2, true) := by unfold rtry; rw [if_neg h]
theorem rtry_acc {r : Reg} {t : Tic} (h : (rtry r t).2 = true) : trec r.1 t ∧ r.2.length < 8 ∧ t ∉ r.2 ∧ (rtry r t).1 = ins t r.2 := by
  by_cases k : ¬ trec r.1 t ∨ 8 ≤ r.2.length ∨ t ∈ r.2
  · rw [rtry_no k] at h; cases h
  · rw [rtry_yes k]
    refine ⟨Decidable.byContradiction fun h => k (.inl h), by have : ¬ 8 ≤ r.2.length := fun h => k (.inr (.inl h)); omega, fun h => k (.inr (.inr h)), rfl⟩
theorem rtry_rej {r : Reg} {t : Tic} (h : (rtry r t).2 = false) : (rtry r t).1 = r.2 := by
  by_cases k : ¬ trec r.1 t ∨ 8 ≤ r.2.length ∨ t ∈ r.2
  · rw [rtry_no k]
  · rw [rtry_yes k] at h; cases h
theorem rtry_ok {r : Reg} {t : Tic} (h : regok r) (ht : tkvd t) : regok (r.1, (rtry r t).1) := by
  by_cases k : ¬ trec r.1 t ∨ 8 ≤ r.2.length ∨ t ∈ r.2
  · rw [rtry_no k]; exact h
  · have ha := rtry_acc (r := r) (t := t) (by rw [rtry_yes k])
    obtain ⟨h1, h2, h3, h4⟩ := h
    rw [ha.2.2.2]
    refine ⟨h1, by show (ins t r.2).length ≤ 8; rw [ins_len]; omega, fun x hx => ?_, ins_asc h4 ha.2.2.1⟩
    rcases mem_ins.1 hx with rfl | hx
    · exact ⟨ht, ha.1⟩
    · exact h3 x hx
theorem rtry_once {r : Reg} {t : Tic} (h : (rtry r t).2 = true) : rtry (r.1, (rtry r t).1) t = ((rtry r t).1, false) :=
  rtry_no (r := (r.1, (rtry r t).1)) (.inr (.inr (by show t ∈ (rtry r t).1; rw [(rtry_acc h).2.2.2]; exact mem_ins.2 (.inl rfl))))
theorem rtry_forget {r : Reg} {n : Int} {t : Tic} (h : t ∈ r.2) : (rtry (n, tick n r.2) t).2 = false := by
  rw [rtry_no]
  by_cases k : n - 10 ≤ t.2
  · exact .inr (.inr (mem_tick.2 ⟨h, k⟩))
  · exact .inl fun q => k q.1
theorem rtry_order {r : Reg} {t u : Tic} (h : regok r) (h1 : (rtry r t).2 = true) (h2 : (rtry (r.1, (rtry r t).1) u).2 = true) :
    (rtry r u).2 = true ∧ (rtry (r.1, (rtry r u).1) t).2 = true ∧ (rtry (r.1, (rtry r u).1) t).1 = (rtry (r.1, (rtry r t).1) u).1 := by
  obtain ⟨a1, a2, a3, a4⟩ := rtry_acc h1
  obtain ⟨b1, b2, b3, b4⟩ := rtry_acc h2
  rw [a4] at b2 b3 b4 ⊢
  have hul : u ∉ r.2 := fun k => b3 (mem_ins.2 (.inr k))
  have hut : u ≠ t := fun k => b3 (mem_ins.2 (.inl k))
  have hl2 : (ins t r.2).length < 8 := b2
  rw [ins_len] at hl2
  have hu : ¬ (¬ trec r.1 u ∨ 8 ≤ r.2.length ∨ u ∈ r.2) := by
    rintro (k | k | k)
    · exact k b1
    · omega
    · exact hul k
  rw [rtry_yes hu]
  have ht : ¬ (¬ trec r.1 t ∨ 8 ≤ (ins u r.2).length ∨ t ∈ ins u r.2) := by
    rintro (k | k | k)
    · exact k a1
    · rw [ins_len] at k; omega
    · rcases mem_ins.1 k with k | k
      · exact hut k.symm
      · exact a3 k
  have e := rtry_yes (r := (r.1, ins u r.2)) (t := t) ht
  refine ⟨rfl, by rw [e], ?_⟩
  rw [e, b4]
  refine asc_unique (ins_asc (ins_asc h.2.2.2 hul) fun k => ht (.inr (.inr k))) (ins_asc (ins_asc h.2.2.2 a3) b3) fun x => ?_
  simp only [mem_ins]
  constructor
  · rintro (k | k | k)
    · exact .inr (.inl k)
    · exact .inl k
    · exact .inr (.inr k)
  · rintro (k | k | k)
    · exact .inr (.inl k)
    · exact .inl k
    · exact .inr (.inr k)

/-- RegisterTick, RegisterTry at every argument. -/
def rtickv (r : Reg) (n : Int) : Reg × Bool := if regok r ∧ (r.1 ≤ n ∧ n ≤ 999) then ((n, tick n r.2), true) else ((0, []), false)
def rtryv (r : Reg) (t : Tic) : Reg × Bool := if regok r ∧ tkvd t then ((r.1, (rtry r t).1), (rtry r t).2) else ((0, []), false)
theorem rtickv_yes {r : Reg} {n : Int} (h : regok r ∧ (r.1 ≤ n ∧ n ≤ 999)) : rtickv r n = ((n, tick n r.2), true) := by unfold rtickv; rw [if_pos h]
theorem rtickv_no {r : Reg} {n : Int} (h : ¬ (regok r ∧ (r.1 ≤ n ∧ n ≤ 999))) : rtickv r n = ((0, []), false) := by unfold rtickv; rw [if_neg h]
theorem rtryv_yes {r : Reg} {t : Tic} (h : regok r ∧ tkvd t) : rtryv r t = ((r.1, (rtry r t).1), (rtry r t).2) := by unfold rtryv; rw [if_pos h]
theorem rtryv_no {r : Reg} {t : Tic} (h : ¬ (regok r ∧ tkvd t)) : rtryv r t = ((0, []), false) := by unfold rtryv; rw [if_neg h]

/-- TicketHome. -/
def home (n : Int) (t : Tic) : Int := if (1 ≤ n ∧ n ≤ 4) ∧ tkvd t then t.1 % n else -1
/-- ServersTry. -/
def sok (l : List Reg) : Prop := (1 ≤ l.length ∧ l.length ≤ 4) ∧ ∀ r ∈ l, regok r
instance (l : List Reg) : Decidable (sok l) := by unfold sok; infer_instance
def stry (l : List Reg) (i : Int) (t : Tic) : List Reg × Bool :=
  if sok l ∧ tkvd t ∧ (0 ≤ i ∧ i < l.length) then
    (if i = home l.length t then (l.set i.toNat ((l.getD i.toNat (0, [])).1, (rtry (l.getD i.toNat (0, [])) t).1), (rtry (l.getD i.toNat (0, [])) t).2) else (l, false))
  else ([], false)

end Go.Proofs.Ytlhjhdlpejpooab
