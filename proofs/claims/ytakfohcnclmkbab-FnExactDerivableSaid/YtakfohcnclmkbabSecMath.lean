/- Chapter 11, plain lists: boxes, what can be derived, and what the model's rounds come to. -/
import Derived.Test.YtakfohcnclmkbabBase
namespace Go.Proofs.Ytakfohcnclmkbab
open Go.RowKit
set_option linter.unusedVariables false
set_option linter.unusedSimpArgs false

abbrev Bx := Int × List Int
def aok (n : Int) : Bool := decide (1 ≤ n ∧ n ≤ 20)
def bok (b : Bx) : Bool := aok b.1 && decide (1 ≤ b.2.length ∧ b.2.length ≤ 4) && b.2.all aok
def bsok (l : List Bx) : Bool := decide (l.length ≤ 10) && l.all bok
def kok (k : List Int) : Bool := decide (k.length ≤ 20) && k.all aok

theorem aok_iff {n : Int} : aok n = true ↔ 1 ≤ n ∧ n ≤ 20 := by unfold aok; simp
theorem bok_iff {b : Bx} : bok b = true ↔ aok b.1 = true ∧ 1 ≤ b.2.length ∧ b.2.length ≤ 4 ∧ ∀ a ∈ b.2, aok a = true := by
  unfold bok; simp [and_assoc]
theorem bsok_iff {l : List Bx} : bsok l = true ↔ l.length ≤ 10 ∧ ∀ b ∈ l, bok b = true := by unfold bsok; simp
theorem kok_iff {k : List Int} : kok k = true ↔ k.length ≤ 20 ∧ ∀ a ∈ k, aok a = true := by unfold kok; simp

/-- What can be derived. -/
inductive Der (l : List Bx) (k : List Int) : Int → Prop
  | known {a : Int} : a ∈ k → Der l k a
  | opens {b : Bx} {a : Int} : b ∈ l → Der l k b.1 → a ∈ b.2 → Der l k a

theorem Der.atom {l : List Bx} {k : List Int} (hl : bsok l = true) (hk : kok k = true) {a : Int} (h : Der l k a) : 1 ≤ a ∧ a ≤ 20 := by
  cases h with
  | known h => exact aok_iff.1 ((kok_iff.1 hk).2 a h)
  | opens hb _ ha => exact aok_iff.1 ((bok_iff.1 ((bsok_iff.1 hl).2 _ hb)).2.2.2 a ha)
theorem Der.mono {l l' : List Bx} {k k' : List Int} (hl : ∀ b ∈ l, b ∈ l') (hk : ∀ a ∈ k, a ∈ k') {a : Int} (h : Der l k a) : Der l' k' a := by
  induction h with
  | known h => exact .known (hk _ h)
  | opens hb _ ha ih => exact .opens (hl _ hb) ih ha
/-- A set that holds what is known and what lies in its open boxes holds all that can be derived. -/
theorem Der.least {l : List Bx} {k : List Int} {S : Int → Prop} (hk : ∀ a ∈ k, S a) (hc : ∀ b ∈ l, S b.1 → ∀ a ∈ b.2, S a) {a : Int} (h : Der l k a) : S a := by
  induction h with
  | known h => exact hk _ h
  | opens hb _ ha ih => exact hc _ hb ih _ ha
/-- What is derived from what was derived was derived. -/
theorem Der.again {l : List Bx} {k k' : List Int} (hk : ∀ a ∈ k', Der l k a) {a : Int} (h : Der l k' a) : Der l k a :=
  Der.least hk (fun b hb hs a ha => .opens hb hs ha) h

/-! ### The model's array -/
def addA (h : List Bool) (ins : List Int) : List Bool := ins.foldl (fun h a => h.set a.toNat true) h
def opn (skip : Int) (h : List Bool) (b : Bx) : Bool := h.getD b.1.toNat false && b.1 != skip
def pass1 (skip : Int) (h : List Bool) (b : Bx) : List Bool := if opn skip h b then addA h b.2 else h
def passA (skip : Int) (h : List Bool) (l : List Bx) : List Bool := l.foldl (pass1 skip) h
def passN (skip : Int) (l : List Bx) : Nat → List Bool → List Bool
  | 0, h => h
  | n + 1, h => passA skip (passN skip l n h) l
def has0 (k : List Int) : List Bool := addA (List.replicate 21 false) k
def hasA (l : List Bx) (k : List Int) (skip : Int) : List Bool := passN skip l (l.length + 1) (has0 k)

theorem addA_nil (h : List Bool) : addA h [] = h := rfl
theorem addA_snoc (h : List Bool) (ins : List Int) (a : Int) : addA h (ins ++ [a]) = (addA h ins).set a.toNat true := by unfold addA; rw [List.foldl_append]; rfl
theorem addA_cons (h : List Bool) (ins : List Int) (a : Int) : addA h (a :: ins) = addA (h.set a.toNat true) ins := rfl
theorem passA_snoc (s : Int) (h : List Bool) (l : List Bx) (b : Bx) : passA s h (l ++ [b]) = pass1 s (passA s h l) b := by unfold passA; rw [List.foldl_append]; rfl
theorem passA_cons (s : Int) (h : List Bool) (l : List Bx) (b : Bx) : passA s h (b :: l) = passA s (pass1 s h b) l := rfl
theorem addA_len : ∀ (ins : List Int) (h : List Bool), (addA h ins).length = h.length
  | [], h => rfl
  | a :: t, h => by rw [addA_cons, addA_len t]; simp
theorem pass1_len (s : Int) (h : List Bool) (b : Bx) : (pass1 s h b).length = h.length := by unfold pass1; split; exact addA_len _ _; rfl
theorem passA_len (s : Int) : ∀ (l : List Bx) (h : List Bool), (passA s h l).length = h.length
  | [], h => rfl
  | b :: t, h => by rw [passA_cons, passA_len s t, pass1_len]
theorem passN_len (s : Int) (l : List Bx) : ∀ (n : Nat) (h : List Bool), (passN s l n h).length = h.length
  | 0, h => rfl
  | n + 1, h => by show (passA s (passN s l n h) l).length = _; rw [passA_len, passN_len s l n]
theorem has0_len (k : List Int) : (has0 k).length = 21 := by unfold has0; rw [addA_len]; simp
theorem hasA_len (l : List Bx) (k : List Int) (s : Int) : (hasA l k s).length = 21 := by unfold hasA; rw [passN_len, has0_len]

/-- Entry n of the array. -/
def at' (h : List Bool) (n : Int) : Prop := h.getD n.toNat false = true
theorem at_set {h : List Bool} (hl : h.length = 21) {a n : Int} (ha : aok a = true) (hn : 0 ≤ n) : at' (h.set a.toNat true) n ↔ at' h n ∨ n = a := by
  rw [aok_iff] at ha
  unfold at'
  rw [List.getD_eq_getElem?_getD, List.getD_eq_getElem?_getD, List.getElem?_set]
  by_cases e : a.toNat = n.toNat
  · have e2 : n = a := by omega
    rw [if_pos e, if_pos (by omega)]; simp [e2]
  · have e2 : n ≠ a := by omega
    rw [if_neg e]; simp [e2]
theorem at_add : ∀ {ins : List Int} {h : List Bool}, h.length = 21 → (∀ a ∈ ins, aok a = true) → ∀ {n : Int}, 0 ≤ n → (at' (addA h ins) n ↔ at' h n ∨ n ∈ ins)
  | [], h, hl, hi, n, hn => by simp [addA_nil]
  | a :: t, h, hl, hi, n, hn => by
    rw [addA_cons, at_add (by simp [hl]) (fun x hx => hi x (List.mem_cons_of_mem _ hx)) hn, at_set hl (hi a List.mem_cons_self) hn]
    simp [or_assoc]
theorem at_has0 {k : List Int} (hk : ∀ a ∈ k, aok a = true) {n : Int} (hn : 0 ≤ n) : at' (has0 k) n ↔ n ∈ k := by
  unfold has0
  rw [at_add (by simp) hk hn]
  have : ¬ at' (List.replicate 21 false) n := by
    unfold at'
    rw [List.getD_eq_getElem?_getD, List.getElem?_replicate]
    split <;> simp
  exact ⟨fun h => h.resolve_left this, .inr⟩

section
variable {s : Int} {l : List Bx}
def okL (l : List Bx) : Prop := ∀ b ∈ l, bok b = true
theorem opn_iff {h : List Bool} {b : Bx} : opn s h b = true ↔ at' h b.1 ∧ b.1 ≠ s := by unfold opn at'; simp
theorem at_pass1 {h : List Bool} (hl : h.length = 21) {b : Bx} (hb : bok b = true) {n : Int} (hn : 0 ≤ n) : at' (pass1 s h b) n ↔ at' h n ∨ (at' h b.1 ∧ b.1 ≠ s ∧ n ∈ b.2) := by
  unfold pass1
  by_cases ho : opn s h b = true
  · rw [if_pos ho, at_add hl (bok_iff.1 hb).2.2.2 hn]
    have := opn_iff.1 ho
    constructor
    · rintro (h | h); exact .inl h; exact .inr ⟨this.1, this.2, h⟩
    · rintro (h | h); exact .inl h; exact .inr h.2.2
  · rw [if_neg ho]
    constructor
    · exact .inl
    · rintro (h | h); exact h
      exact absurd (opn_iff.2 ⟨h.1, h.2.1⟩) ho
theorem pass_mono : ∀ {l : List Bx} {h : List Bool}, h.length = 21 → okL l → ∀ {n : Int}, 0 ≤ n → at' h n → at' (passA s h l) n
  | [], h, _, _, n, _, ha => ha
  | b :: t, h, hl, hb, n, hn, ha => by
    rw [passA_cons]
    exact pass_mono (by rw [pass1_len, hl]) (fun x hx => hb x (List.mem_cons_of_mem _ hx)) hn ((at_pass1 hl (hb b List.mem_cons_self) hn).2 (.inl ha))
/-- What was open ahead of a pass lies in the array behind it. -/
theorem pass_opens : ∀ {l : List Bx} {h : List Bool}, h.length = 21 → okL l → ∀ b ∈ l, at' h b.1 → b.1 ≠ s → ∀ n ∈ b.2, at' (passA s h l) n
  | c :: t, h, hl, hb, b, hm, ha, hs, n, hn => by
    have hbb := hb b hm
    have hn0 : 0 ≤ n := by have := aok_iff.1 ((bok_iff.1 hbb).2.2.2 n hn); omega
    have hb0 : 0 ≤ b.1 := by have := aok_iff.1 (bok_iff.1 hbb).1; omega
    rw [passA_cons]
    rcases List.mem_cons.1 hm with rfl | hm'
    · exact pass_mono (by rw [pass1_len, hl]) (fun x hx => hb x (List.mem_cons_of_mem _ hx)) hn0 ((at_pass1 hl hbb hn0).2 (.inr ⟨ha, hs, hn⟩))
    · exact pass_opens (by rw [pass1_len, hl]) (fun x hx => hb x (List.mem_cons_of_mem _ hx)) b hm' ((at_pass1 hl (hb c List.mem_cons_self) hb0).2 (.inl ha)) hs n hn
theorem pass_least {S : Int → Prop} : ∀ {l : List Bx} {h : List Bool}, h.length = 21 → okL l → (∀ n, 0 ≤ n → at' h n → S n) → (∀ b ∈ l, b.1 ≠ s → S b.1 → ∀ a ∈ b.2, S a) → ∀ n, 0 ≤ n → at' (passA s h l) n → S n
  | [], h, _, _, h0, _, n, hn, ha => h0 n hn ha
  | b :: t, h, hl, hb, h0, hc, n, hn, ha => by
    rw [passA_cons] at ha
    have hbb := hb b List.mem_cons_self
    have hb0 : 0 ≤ b.1 := by have := aok_iff.1 (bok_iff.1 hbb).1; omega
    refine pass_least (by rw [pass1_len, hl]) (fun x hx => hb x (List.mem_cons_of_mem _ hx)) (fun m hm hat => ?_) (fun c hc' => hc c (List.mem_cons_of_mem _ hc')) n hn ha
    rcases (at_pass1 hl hbb hm).1 hat with h | ⟨h1, h2, h3⟩
    · exact h0 m hm h
    · exact hc b List.mem_cons_self h2 (h0 _ hb0 h1) m h3

/-- Closed: a further pass adds nothing. -/
def closed (s : Int) (l : List Bx) (h : List Bool) : Prop := ∀ b ∈ l, at' h b.1 → b.1 ≠ s → ∀ n ∈ b.2, at' h n
def nopen (s : Int) (l : List Bx) (h : List Bool) : Nat := l.countP (opn s h)
theorem nopen_le (h : List Bool) : nopen s l h ≤ l.length := List.countP_le_length
theorem count_same {p q : Bx → Bool} : ∀ {l : List Bx}, (∀ b ∈ l, p b = true → q b = true) → l.countP q ≤ l.countP p → ∀ b ∈ l, q b = true → p b = true
  | [], _, _, b, hb, _ => by simp at hb
  | c :: t, hpq, hle, b, hb, hq => by
    have hm : t.countP p ≤ t.countP q := List.countP_mono_left fun x hx => hpq x (List.mem_cons_of_mem _ hx)
    rw [List.countP_cons, List.countP_cons] at hle
    have hpc := hpq c List.mem_cons_self
    by_cases hqc : q c = true
    · by_cases hpc' : p c = true
      · rw [if_pos hqc, if_pos hpc'] at hle
        rcases List.mem_cons.1 hb with rfl | hb
        · exact hpc'
        · exact count_same (fun x hx => hpq x (List.mem_cons_of_mem _ hx)) (by omega) b hb hq
      · rw [if_pos hqc, if_neg hpc'] at hle; omega
    · have hpc' : ¬ p c = true := fun h => hqc (hpc h)
      rw [if_neg hqc, if_neg hpc'] at hle
      rcases List.mem_cons.1 hb with rfl | hb
      · exact absurd hq hqc
      · exact count_same (fun x hx => hpq x (List.mem_cons_of_mem _ hx)) (by omega) b hb hq
theorem closed_pass {h : List Bool} (hl : h.length = 21) (hk : okL l) (hc : closed s l h) : closed s l (passA s h l) := by
  intro b hb ha hs n hn
  have hbb := hk b hb
  have hb0 : 0 ≤ b.1 := by have := aok_iff.1 (bok_iff.1 hbb).1; omega
  have hn0 : 0 ≤ n := by have := aok_iff.1 ((bok_iff.1 hbb).2.2.2 n hn); omega
  have := pass_least (S := fun n => at' h n) hl hk (fun n _ h => h) (fun b hb hs ha a hh => hc b hb ha hs a hh) b.1 hb0 ha
  exact pass_mono hl hk hn0 (hc b hb this hs n hn)
theorem passN_step (h : List Bool) (hl : h.length = 21) (hk : okL l) : ∀ n, closed s l (passN s l n h) ∨ n ≤ nopen s l (passN s l n h)
  | 0 => .inr (Nat.zero_le _)
  | n + 1 => by
    have hl' : (passN s l n h).length = 21 := by rw [passN_len, hl]
    rcases passN_step h hl hk n with hc | hc
    · exact .inl (closed_pass hl' hk hc)
    · show closed s l (passA s (passN s l n h) l) ∨ n + 1 ≤ nopen s l (passA s (passN s l n h) l)
      generalize passN s l n h = g at *
      have hpq : ∀ b ∈ l, opn s g b = true → opn s (passA s g l) b = true := fun b hb ho => by
        have hb0 : 0 ≤ b.1 := by have := aok_iff.1 (bok_iff.1 (hk b hb)).1; omega
        exact opn_iff.2 ⟨pass_mono hl' hk hb0 (opn_iff.1 ho).1, (opn_iff.1 ho).2⟩
      by_cases hlt : nopen s l (passA s g l) ≤ nopen s l g
      · refine .inl fun b hb ha hs m hm => ?_
        have := count_same hpq hlt b hb (opn_iff.2 ⟨ha, hs⟩)
        exact pass_opens hl' hk b hb (opn_iff.1 this).1 hs m hm
      · exact .inr (by omega)
theorem passN_least {S : Int → Prop} {h : List Bool} (hl : h.length = 21) (hk : okL l) (h0 : ∀ n, 0 ≤ n → at' h n → S n) (hc : ∀ b ∈ l, b.1 ≠ s → S b.1 → ∀ a ∈ b.2, S a) : ∀ m n, 0 ≤ n → at' (passN s l m h) n → S n
  | 0, n, hn, ha => h0 n hn ha
  | m + 1, n, hn, ha => pass_least (by rw [passN_len, hl]) hk (passN_least hl hk h0 hc m) hc n hn ha
theorem passN_mono {h : List Bool} (hl : h.length = 21) (hk : okL l) {n : Int} (hn : 0 ≤ n) (ha : at' h n) : ∀ m, at' (passN s l m h) n
  | 0 => ha
  | m + 1 => pass_mono (by rw [passN_len, hl]) hk hn (passN_mono hl hk hn ha m)
end

def without (l : List Bx) (s : Int) : List Bx := l.filter (fun b => b.1 != s)
theorem mem_without {l : List Bx} {s : Int} {b : Bx} : b ∈ without l s ↔ b ∈ l ∧ b.1 ≠ s := by unfold without; simp

/-- The model's array holds just what can be derived, the boxes with the key that is left out apart. -/
theorem hasA_iff {l : List Bx} {k : List Int} (s : Int) (hl : bsok l = true) (hk : kok k = true) {n : Int} (hn : 0 ≤ n) : at' (hasA l k s) n ↔ Der (without l s) k n := by
  have hL : okL l := (bsok_iff.1 hl).2
  have hK := (kok_iff.1 hk).2
  have h0 : (has0 k).length = 21 := has0_len k
  constructor
  · refine passN_least h0 hL (fun n hn ha => .known ((at_has0 hK hn).1 ha)) (fun b hb hs hd a ha => .opens (mem_without.2 ⟨hb, hs⟩) hd ha) _ n hn
  · intro h
    have hc : closed s l (hasA l k s) := by
      rcases passN_step (s := s) (l := l) (has0 k) h0 hL (l.length + 1) with h | h
      · exact h
      · have := nopen_le (s := s) (l := l) (passN s l (l.length + 1) (has0 k)); omega
    have : ∀ n, Der (without l s) k n → at' (hasA l k s) n := fun n h => Der.least (S := fun n => at' (hasA l k s) n)
      (fun a ha => passN_mono h0 hL (by have := aok_iff.1 (hK a ha); omega) ((at_has0 hK (by have := aok_iff.1 (hK a ha); omega)).2 ha) _)
      (fun b hb hs a ha => hc b (mem_without.1 hb).1 hs (mem_without.1 hb).2 a ha) h
    exact this n h
theorem without_zero {l : List Bx} (hl : bsok l = true) : without l 0 = l := by
  unfold without
  rw [List.filter_eq_self]
  intro b hb
  have := aok_iff.1 (bok_iff.1 ((bsok_iff.1 hl).2 b hb)).1
  simp; omega

/-! ### The list that Derive gives -/
/-- Derivable, of valid boxes and known atoms. -/
def Ders (l : List Bx) (k : List Int) (n : Int) : Prop := (bsok l = true ∧ kok k = true) ∧ Der l k n
theorem Ders.atom {l : List Bx} {k : List Int} {a : Int} (h : Ders l k a) : 1 ≤ a ∧ a ≤ 20 := Der.atom h.1.1 h.1.2 h.2
open Classical in
noncomputable def db (l : List Bx) (k : List Int) (n : Int) : Bool := decide (Ders l k n)
theorem db_iff {l : List Bx} {k : List Int} {n : Int} : db l k n = true ↔ Ders l k n := by unfold db; simp
def upto (m : Nat) : List Int := (List.range m).map (fun i : Nat => (i : Int) + 1)
theorem upto_succ (m : Nat) : upto (m + 1) = upto m ++ [(m : Int) + 1] := by unfold upto; rw [List.range_succ, List.map_append]; rfl
theorem mem_upto {m : Nat} {n : Int} : n ∈ upto m ↔ 1 ≤ n ∧ n ≤ m := by
  unfold upto; simp only [List.mem_map, List.mem_range]
  constructor
  · rintro ⟨i, hi, rfl⟩; omega
  · intro h; exact ⟨(n - 1).toNat, by omega, by omega⟩
noncomputable def dl (l : List Bx) (k : List Int) : List Int := (upto 20).filter (db l k)
theorem mem_dl {l : List Bx} {k : List Int} {n : Int} : n ∈ dl l k ↔ Ders l k n := by
  unfold dl
  rw [List.mem_filter, mem_upto, db_iff]
  exact ⟨fun h => h.2, fun h => ⟨h.atom, h⟩⟩
theorem upto_sorted : ∀ m, (upto m).Pairwise (· < ·)
  | 0 => by simp [upto]
  | m + 1 => by
    rw [upto_succ, List.pairwise_append]
    refine ⟨upto_sorted m, by simp, fun a ha b hb => ?_⟩
    have := mem_upto.1 ha
    simp at hb; omega
theorem dl_sorted (l : List Bx) (k : List Int) : (dl l k).Pairwise (· < ·) := (upto_sorted 20).filter _
theorem upto_len (m : Nat) : (upto m).length = m := by unfold upto; simp
theorem dl_len (l : List Bx) (k : List Int) : (dl l k).length ≤ 20 := by
  have := List.length_filter_le (db l k) (upto 20)
  rw [upto_len] at this; exact this
theorem lt_sorted_ext : ∀ {a b : List Int}, a.Pairwise (· < ·) → b.Pairwise (· < ·) → (∀ x, x ∈ a ↔ x ∈ b) → a = b
  | [], [], _, _, _ => rfl
  | [], y :: t, _, _, h => by have := (h y).2 List.mem_cons_self; simp at this
  | x :: t, [], _, _, h => by have := (h x).1 List.mem_cons_self; simp at this
  | x :: s, y :: t, ha, hb, h => by
    obtain ⟨ha1, ha2⟩ := List.pairwise_cons.1 ha
    obtain ⟨hb1, hb2⟩ := List.pairwise_cons.1 hb
    have e : x = y := by
      have hx : x ∈ y :: t := (h x).1 List.mem_cons_self
      have hy : y ∈ x :: s := (h y).2 List.mem_cons_self
      rcases List.mem_cons.1 hx with e | hx
      · exact e
      · rcases List.mem_cons.1 hy with e | hy
        · exact e.symm
        · have h1 := ha1 y hy; have h2 := hb1 x hx; omega
    subst e
    congr 1
    refine lt_sorted_ext ha2 hb2 fun z => ?_
    constructor
    · intro hz
      rcases List.mem_cons.1 ((h z).1 (List.mem_cons_of_mem _ hz)) with e | hz'
      · subst e; have := ha1 z hz; omega
      · exact hz'
    · intro hz
      rcases List.mem_cons.1 ((h z).2 (List.mem_cons_of_mem _ hz)) with e | hz'
      · subst e; have := hb1 z hz; omega
      · exact hz'
/-- A sorted list without repeats that holds just what can be derived is Derive's. -/
theorem dl_of_sorted {l : List Bx} {k ss : List Int} (hn : ss.Nodup) (hm : ∀ x, x ∈ ss ↔ Ders l k x) : ss.mergeSort (fun x y => decide (x ≤ y)) = dl l k := by
  have hp := List.mergeSort_perm ss (fun x y => decide (x ≤ y))
  have hs : (ss.mergeSort (fun x y => decide (x ≤ y))).Pairwise (fun x y => decide (x ≤ y) = true) :=
    List.pairwise_mergeSort (fun a b c => by simp; omega) (fun a b => by simp; omega) ss
  have hnd : (ss.mergeSort (fun x y => decide (x ≤ y))).Nodup := (hp.nodup_iff).2 hn
  refine lt_sorted_ext ?_ (dl_sorted l k) fun x => ?_
  · exact (hs.and hnd).imp fun {a b} h => by
      obtain ⟨h1, h2⟩ := h
      have h1 := of_decide_eq_true h1
      omega
  · rw [hp.mem_iff, hm, mem_dl]
theorem dl_invalid {l : List Bx} {k : List Int} (h : ¬ (bsok l = true ∧ kok k = true)) : dl l k = [] := by
  rw [List.eq_nil_iff_forall_not_mem]
  intro x hx
  exact h (mem_dl.1 hx).1

/-! ### Opened and Guards -/
noncomputable def openedL (l : List Bx) (k : List Int) : List Int := ((List.range l.length).filter (fun i => db l k (l.getD i (0, [])).1)).map (fun i : Nat => (i : Int))
noncomputable def guardsL (l : List Bx) (k : List Int) (a : Int) : List Int := if db l k a then (upto 20).filter (fun g => !db (without l g) k a) else []

end Go.Proofs.Ytakfohcnclmkbab
