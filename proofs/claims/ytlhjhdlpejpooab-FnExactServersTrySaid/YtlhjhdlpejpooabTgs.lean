/- A new row of registers, entry by entry; the slices of the entries lie in blocks of their own. -/
import Derived.Test.YtlhjhdlpejpooabRgs
import Derived.Lib.BufferWrite
namespace Go.Proofs.Ytlhjhdlpejpooab
open Go.RowKit
set_option linter.unusedVariables false
set_option linter.unusedSimpArgs false

/-- The block has n cells that may be written. -/
def Wr (w : World) (B n : Nat) : Prop := ∀ k, k < n → (∃ u, w.cell? ⟨B, k, none⟩ = some u) ∧ w.frozen? ⟨B, k, none⟩ = false
theorem Wr.below {w w' : World} {B n : Nat} (h : Wr w B n) (hb : Below w.heap.size w w') : Wr w' B n := fun k hk => by
  obtain ⟨⟨u, hu⟩, hf⟩ := h k hk
  have hl : B < w.heap.size := World.block_lt_of_cell? w _ hu
  exact ⟨⟨u, (hb.cell hl).trans hu⟩, (hb.frozen (p := ⟨B, k, none⟩) hl).trans hf⟩
theorem Wr.set {w : World} {B n : Nat} (h : Wr w B n) (i : Nat) (v : Value) : Wr (w.setCell ⟨B, i, none⟩ v) B n := fun k hk => by
  obtain ⟨⟨u, hu⟩, hf⟩ := h k hk
  refine ⟨?_, by rw [World.frozen?_setCell]; exact hf⟩
  by_cases e : i = k
  · subst e; exact ⟨v, World.cell?_setCell_same _ _ _ hu⟩
  · exact ⟨u, (World.cell?_setCell_other _ _ _ _ (by intro q; injection q with q1 q2 q3; exact e q2)).trans hu⟩
theorem Wr.far {w : World} {B n c : Nat} (h : Wr w B n) (hc : c ≠ B) (i : Nat) (v : Value) : Wr (w.setCell ⟨c, i, none⟩ v) B n := fun k hk => by
  obtain ⟨⟨u, hu⟩, hf⟩ := h k hk
  exact ⟨⟨u, (World.cell?_setCell_other _ _ _ _ (by intro q; injection q with q1 q2 q3; exact hc q1)).trans hu⟩, by rw [World.frozen?_setCell]; exact hf⟩
def TgAt (w : World) (B i : Nat) (r : Reg) (s : Value) : Prop := w.cell? ⟨B, i * 2, none⟩ = some (.int .i64 r.1) ∧ w.cell? ⟨B, i * 2 + 1, none⟩ = some s ∧ OwnTc w (B + 1) s r.2
theorem TgAt.below {w w' : World} {B i : Nat} {r : Reg} {s : Value} (h : TgAt w B i r s) (hb : Below w.heap.size w w') : TgAt w' B i r s := by
  obtain ⟨h0, h1, h2⟩ := h
  have hl : B < w.heap.size := World.block_lt_of_cell? w _ h0
  exact ⟨(hb.cell hl).trans h0, (hb.cell hl).trans h1, h2.below hb⟩
theorem own_notB {w : World} {B : Nat} {s : Value} {l : List Tic} (h : OwnTc w (B + 1) s l) : s.ownBlock ≠ some B := fun e => by have := (World.ownsRow.lt h B e).1; omega
theorem TgAt.set {w : World} {B i k : Nat} {r : Reg} {s : Value} (h : TgAt w B i r s) (h1 : k ≠ i * 2) (h2 : k ≠ i * 2 + 1) (v : Value) : TgAt (w.setCell ⟨B, k, none⟩ v) B i r s := by
  obtain ⟨a0, a1, a2⟩ := h
  exact ⟨(World.cell?_setCell_other _ _ _ _ (by intro e; injection e with e1 e2 e3; omega)).trans a0, (World.cell?_setCell_other _ _ _ _ (by intro e; injection e with e1 e2 e3; omega)).trans a1, OwnTc.far a2 (own_notB a2)⟩
/-- The first j entries of the row in block B stand; n entries may be written. -/
structure ToG (w : World) (B n : Nat) (f : Nat → Value) (R : Nat → Reg) (j : Nat) : Prop where
  wr : Wr w B (n * 2)
  tb : ∀ i, i < j → TgAt w B i (R i) (f i)
  ap : ∀ i k, i < k → k < j → (f i).ownBlock = none ∨ (f i).ownBlock ≠ (f k).ownBlock
theorem ToG.below {w w' : World} {B n j : Nat} {f : Nat → Value} {R : Nat → Reg} (h : ToG w B n f R j) (hb : Below w.heap.size w w') : ToG w' B n f R j := ⟨h.wr.below hb, fun i hi => (h.tb i hi).below hb, h.ap⟩
/-- Entry k is written: its slice is new. -/
theorem ToG.put {w3 : World} {B n j k m base : Nat} {f : Nat → Value} {R : Nat → Reg} {s : Value} {r : Reg} (h : ToG w3 B n f R j) (hk : k < n) (hm : ∀ i, i < m → i < j ∨ i = k) (hB : B < base) (ho : OwnTc w3 base s r.2)
    (hold : ∀ i, i < j → ∀ q, (f i).ownBlock = some q → q < base) :
    ToG ((w3.setCell ⟨B, k * 2, none⟩ (.int .i64 r.1)).setCell ⟨B, k * 2 + 1, none⟩ s) B n (fun i => if i = k then s else f i) (fun i => if i = k then r else R i) m := by
  have w1 := h.wr.set (k * 2) (.int .i64 r.1)
  have ho' : OwnTc w3 (B + 1) s r.2 := OwnTc.lower ho (by omega)
  refine ⟨w1.set (k * 2 + 1) s, fun i hi => ?_, fun i q hiq hq => ?_⟩
  · by_cases e : i = k
    · subst e
      simp only [if_pos]
      refine ⟨?_, ?_, OwnTc.far (OwnTc.far ho' (own_notB ho')) (own_notB ho')⟩
      · rw [World.cell?_setCell_other _ _ _ _ (by intro e; injection e with e1 e2 e3; omega)]
        obtain ⟨⟨u, hu⟩, _⟩ := h.wr (i * 2) (by omega)
        exact World.cell?_setCell_same _ _ _ hu
      · obtain ⟨⟨u, hu⟩, _⟩ := w1 (i * 2 + 1) (by omega)
        exact World.cell?_setCell_same _ _ _ hu
    · simp only [if_neg e]
      exact ((h.tb i ((hm i hi).resolve_right e)).set (by omega) (by omega) _).set (by omega) (by omega) _
  · have far : ∀ i, i < j → (f i).ownBlock = none ∨ (f i).ownBlock ≠ s.ownBlock := fun i hi => by
      cases hq : (f i).ownBlock with
      | none => exact .inl rfl
      | some b => exact .inr fun e => by have := hold i hi b hq; have := (World.ownsRow.lt ho b e.symm).1; omega
    by_cases e1 : i = k
    · have e2 : q ≠ k := by omega
      simp only [if_pos e1, if_neg e2]
      have hqj : q < j := (hm q hq).resolve_right e2
      cases hs : s.ownBlock with
      | none => exact .inl rfl
      | some b => exact .inr fun e => by have := hold q hqj b e.symm; have := (World.ownsRow.lt ho b hs).1; omega
    · by_cases e2 : q = k
      · simp only [if_neg e1, if_pos e2]
        exact far i ((hm i (by omega)).resolve_right e1)
      · simp only [if_neg e1, if_neg e2]
        exact h.ap i q hiq ((hm q hq).resolve_right e2)
theorem ToG.lt {w : World} {B n j : Nat} {f : Nat → Value} {R : Nat → Reg} (h : ToG w B n f R j) : ∀ i, i < j → ∀ q, (f i).ownBlock = some q → q < w.heap.size := fun i hi q hq => (World.ownsRow.lt (h.tb i hi).2.2 q hq).2
theorem ToG.weak {w : World} {B n j j' : Nat} {f : Nat → Value} {R R' : Nat → Reg} (h : ToG w B n f R j) (hj : j' ≤ j) (hR : ∀ i, i < j' → R' i = R i) : ToG w B n f R' j' :=
  ⟨h.wr, fun i hi => by rw [hR i hi]; exact h.tb i (by omega), fun i k h1 h2 => h.ap i k h1 (by omega)⟩
theorem ToG.rgs {w : World} {B c : Nat} {f : Nat → Value} {L : List Reg} (h : ToG w B L.length f (fun i => L.getD i rgD) L.length) (hc : L.length ≤ c) : Rgs False w (.slice (some ⟨B, 0, none⟩) L.length c) L :=
  ⟨some ⟨B, 0, none⟩, c, rfl, hc, fun _ => ⟨B, 0, rfl, fun i hi => by
    obtain ⟨h0, h1, h2⟩ := h.tb i hi
    rw [Nat.zero_add]
    exact ⟨f i, h0, h1, Tcs.of_own h2, fun f => f.elim⟩⟩⟩

/-- What ServersTry hands back: nil, or a new row. -/
def GotSv (w : World) (L : List Reg) (q : Bool) (e : Ending) (w' : World) : Prop :=
  ∃ v', e = .returned (.tuple #[v', .bool q]) ∧ Below w.heap.size w w' ∧ ((v' = .slice none 0 0 ∧ L = []) ∨ ∃ (N c : Nat) (f : Nat → Value), w.heap.size ≤ N ∧ L.length ≤ c ∧ v' = .slice (some ⟨N, 0, none⟩) L.length c ∧ ToG w' N L.length f (fun i => L.getD i rgD) L.length)
theorem GotSv.rgs {w' : World} {L : List Reg} {v' : Value} {B : Nat} (h : (v' = .slice none 0 0 ∧ L = []) ∨ ∃ (N c : Nat) (f : Nat → Value), B ≤ N ∧ L.length ≤ c ∧ v' = .slice (some ⟨N, 0, none⟩) L.length c ∧ ToG w' N L.length f (fun i => L.getD i rgD) L.length) : Rgs False w' v' L := by
  rcases h with ⟨rfl, rfl⟩ | ⟨N, c, f, _, hc, rfl, h⟩
  · exact ⟨none, 0, rfl, Nat.le_refl _, fun h => absurd rfl h⟩
  · exact h.rgs hc

end Go.Proofs.Ytlhjhdlpejpooab
