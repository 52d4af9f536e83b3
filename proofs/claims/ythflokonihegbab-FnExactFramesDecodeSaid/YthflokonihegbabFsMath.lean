/- Chapter 4, plain lists of frames: a packet has one encoding, and is decoded from it. -/
import Derived.Test.YthflokonihegbabDeMath
namespace Go.Proofs.Ythflokonihegbab
open Go.RowKit
set_option linter.unusedVariables false
set_option linter.unusedSimpArgs false

/-- The encodings, one after the other. -/
def catF : List Fr → ByteArray
  | [] => ⟨#[]⟩
  | f :: l => fenc f ++ catF l
def okF (l : List Fr) : Bool := l.all fok
theorem okF_cons {f : Fr} {l : List Fr} : okF (f :: l) = true ↔ fok f = true ∧ okF l = true := by
  unfold okF; rw [List.all_cons, Bool.and_eq_true]
theorem nil_app (t : ByteArray) : (⟨#[]⟩ : ByteArray) ++ t = t := by apply bytes_ext; simp
theorem catF_app : ∀ (l m : List Fr), catF (l ++ m) = catF l ++ catF m
  | [], m => (nil_app _).symm
  | f :: l, m => by rw [List.cons_append, catF, catF, catF_app l m, app_assoc']
theorem catF_size : ∀ (l : List Fr), okF l = true → l.length ≤ (catF l).size ∧ (catF l).size ≤ 160 * l.length
  | [], _ => ⟨Nat.le_refl _, Nat.le_refl _⟩
  | f :: l, h => by
    obtain ⟨h1, h2⟩ := okF_cons.1 h
    have := catF_size l h2
    have := fenc_size h1
    rw [catF, size_app, List.length_cons]
    omega
/-- What is decoded, frame by frame, behind those that there are; f: more than the bytes that are left. -/
def fsd : Nat → ByteArray → List Fr → Option (List Fr)
  | 0, _, acc => some acc
  | n + 1, s, acc => if s.size = 0 then some acc else match dec4 s with
    | none => none
    | some (f, u) => if 6 ≤ acc.length then none else fsd n (cut s u) (acc ++ [f])
def fsF (s : ByteArray) : Option (List Fr) := match fsd (s.size + 1) s [] with
  | none => none
  | some l => if 0 < l.length then some l else none
def fsok (l : List Fr) : Bool := okF l && decide (1 ≤ l.length ∧ l.length ≤ 6)
theorem dec4_pos {s : ByteArray} {f : Fr} {u : Nat} (h : dec4 s = some (f, u)) : 1 ≤ u ∧ u ≤ s.size := by
  obtain ⟨h1, h2, h3⟩ := dec4_some h
  have := fenc_size h1
  have hz := congrArg ByteArray.size h2
  rw [size_app] at hz
  omega
theorem fsd_some : ∀ (n : Nat) (s : ByteArray) (acc l : List Fr), s.size < n → okF acc = true → acc.length ≤ 6 → fsd n s acc = some l → okF l = true ∧ l.length ≤ 6 ∧ catF l = catF acc ++ s
  | 0, s, _, _, h, _, _, _ => by omega
  | n + 1, s, acc, l, h, ho, hl, e => by
    rw [fsd] at e
    split at e
    · rename_i h0
      injection e with e
      subst e
      have : s = ⟨#[]⟩ := bytes_zero h0
      rw [this]
      exact ⟨ho, hl, (app_nil _).symm⟩
    · cases hd : dec4 s with
      | none => rw [hd] at e; cases e
      | some p =>
        obtain ⟨f, u⟩ := p
        rw [hd] at e
        simp only at e
        split at e
        · cases e
        · rename_i h6
          obtain ⟨h1, h2, h3⟩ := dec4_some hd
          have hp := dec4_pos hd
          have ho' : okF (acc ++ [f]) = true := by unfold okF at ho ⊢; rw [List.all_append, ho]; simp [h1]
          obtain ⟨k1, k2, k3⟩ := fsd_some n (cut s u) (acc ++ [f]) l (by rw [cut_sz]; omega) ho' (by simp; omega) e
          refine ⟨k1, k2, ?_⟩
          rw [k3, catF_app, app_assoc']
          congr 1
          rw [catF, catF, app_nil]
          exact h2.symm
theorem fsd_cat : ∀ (l : List Fr) (n : Nat) (acc : List Fr), okF l = true → (catF l).size < n → fsd n (catF l) acc = if acc.length + l.length ≤ 6 ∨ l = [] then some (acc ++ l) else none
  | [], n, acc, _, h => by
    cases n with
    | zero => omega
    | succ n => rw [fsd, if_pos (show (catF []).size = 0 from rfl), if_pos (.inr rfl), List.append_nil]
  | f :: l, n, acc, ho, h => by
    obtain ⟨h1, h2⟩ := okF_cons.1 ho
    have hz := fenc_size h1
    cases n with
    | zero => omega
    | succ n =>
      have hs : (catF (f :: l)).size = (fenc f).size + (catF l).size := by rw [catF, size_app]
      rw [fsd, if_neg (by omega)]
      have hd : dec4 (catF (f :: l)) = some (f, (fenc f).size) := dec4_enc h1 (catF l)
      rw [hd]
      simp only
      have hc : cut (catF (f :: l)) (fenc f).size = catF l := cut_app_front _ _
      by_cases h6 : 6 ≤ acc.length
      · rw [if_pos h6, if_neg (by rintro (q | q); simp at q; omega; cases q)]
      · rw [if_neg h6, hc, fsd_cat l n (acc ++ [f]) h2 (by omega)]
        simp only [List.length_append, List.length_cons, List.length_nil, List.append_assoc, List.cons_append, List.nil_append]
        by_cases hl : l = []
        · subst hl
          simp
          omega
        · by_cases hq : acc.length + (0 + 1) + l.length ≤ 6
          · rw [if_pos (.inl hq), if_pos (.inl (by omega))]
          · rw [if_neg (by rintro (q | q); exact hq q; exact hl q), if_neg (by rintro (q | q); omega; cases q)]
/-- A packet is decoded from its encoding. -/
theorem fsF_cat (l : List Fr) (h : okF l = true) : fsF (catF l) = if 1 ≤ l.length ∧ l.length ≤ 6 then some l else none := by
  unfold fsF
  rw [fsd_cat l _ [] h (by omega)]
  simp only [List.length_nil, List.nil_append, Nat.zero_add]
  by_cases hl : l = []
  · subst hl; rfl
  · have hp : 1 ≤ l.length := List.length_pos_iff.2 hl
    by_cases h6 : l.length ≤ 6
    · rw [if_pos (.inl h6)]
      simp only
      rw [if_pos (show 0 < l.length from hp), if_pos ⟨hp, h6⟩]
    · rw [if_neg (by rintro (q | q); exact h6 q; exact hl q), if_neg (by rintro ⟨_, q⟩; exact h6 q)]
/-- What is decoded is a packet, whose encoding was there. -/
theorem fsF_some {s : ByteArray} {l : List Fr} (h : fsF s = some l) : fsok l = true ∧ catF l = s := by
  unfold fsF at h
  cases hd : fsd (s.size + 1) s [] with
  | none => rw [hd] at h; cases h
  | some m =>
    rw [hd] at h
    simp only at h
    split at h
    · rename_i hp
      injection h with h
      subst h
      obtain ⟨k1, k2, k3⟩ := fsd_some _ s [] _ (by omega) rfl (Nat.zero_le _) hd
      refine ⟨?_, by rw [k3]; exact nil_app _⟩
      unfold fsok
      rw [k1, decide_eq_true ⟨hp, k2⟩]; rfl
    · cases h
theorem fsok_parts {l : List Fr} (h : fsok l = true) : okF l = true ∧ 1 ≤ l.length ∧ l.length ≤ 6 := by
  unfold fsok at h; rw [Bool.and_eq_true, decide_eq_true_eq] at h; exact h
/-- P38. -/
theorem fsF_two {s t : ByteArray} {l m : List Fr} (h1 : fsF s = some l) (h2 : fsF t = some m) : fsF (s ++ t) = if l.length + m.length ≤ 6 then some (l ++ m) else none := by
  obtain ⟨a1, a2⟩ := fsF_some h1
  obtain ⟨b1, b2⟩ := fsF_some h2
  obtain ⟨a3, a4, a5⟩ := fsok_parts a1
  obtain ⟨b3, b4, b5⟩ := fsok_parts b1
  rw [← a2, ← b2, ← catF_app]
  have ho : okF (l ++ m) = true := by unfold okF at a3 b3 ⊢; rw [List.all_append, a3, b3]; rfl
  rw [fsF_cat _ ho, List.length_append]
  by_cases h6 : l.length + m.length ≤ 6
  · rw [if_pos ⟨by omega, h6⟩, if_pos h6]
  · rw [if_neg (by omega), if_neg h6]
end Go.Proofs.Ythflokonihegbab
