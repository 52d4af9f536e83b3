/- A slice of registers that came in: read. -/
import Derived.Test.YtlhjhdlpejpooabRowRs
import Derived.Test.YtlhjhdlpejpooabRgs
namespace Go.Proofs.Ytlhjhdlpejpooab
open Go.ChangeShapes Go.WideShapes Go.ChangeAt Go.RowKit Go.Deep
set_option linter.unusedVariables false
set_option linter.unusedSimpArgs false

def RbAt (w : World) (g o : Nat) (b : Reg) (ra : Option Addr) (rc : Nat) : Prop :=
  w.cell? ⟨g, o, none⟩ = some (.int .i64 b.1) ∧ w.cell? ⟨g, o + 1, none⟩ = some (.slice ra b.2.length rc) ∧ Tics w (.slice ra b.2.length rc) b.2
def RgB (w : World) (v : Value) (l : List Reg) : Prop :=
  ∃ a c, v = .slice a l.length c ∧ (l ≠ [] → ∃ g o, a = some ⟨g, o, none⟩ ∧ ∀ i, i < l.length → ∃ ra rc, RbAt w g (o + i * 2) (l.getD i rgD) ra rc)
theorem RbAt.below {w w' : World} {g o : Nat} {b : Reg} {ra : Option Addr} {rc : Nat} (h : RbAt w g o b ra rc) (hb : Below w.heap.size w w') : RbAt w' g o b ra rc := by
  obtain ⟨h0, h1, h2⟩ := h
  have hl : g < w.heap.size := World.block_lt_of_cell? w _ h0
  exact ⟨(hb.cell hl).trans h0, (hb.cell hl).trans h1, h2.below hb⟩
theorem RgB.below {w w' : World} {v : Value} {l : List Reg} (h : RgB w v l) (hb : Below w.heap.size w w') : RgB w' v l := by
  obtain ⟨a, c, rfl, h⟩ := h
  refine ⟨a, c, rfl, fun hx => ?_⟩
  obtain ⟨g, o, rfl, hc⟩ := h hx
  exact ⟨g, o, rfl, fun i hi => by obtain ⟨ra, rc, hf⟩ := hc i hi; exact ⟨ra, rc, hf.below hb⟩⟩
set_option maxRecDepth 100000 in
theorem rgb_of_trod {H : Type} {enc : TypeId × Value → H} {W : World} {a : Option Addr} {len cap : Nat} {d : DataW H} {p : List MemPlace}
    (h : DataW.Trod enc Try.prog W 0 (fun _ => true) true 41 (.slice a len cap) d p) : ∃ l : List Reg, (l.length = len ∧ len ≤ 9223372036854775807) ∧ RgB W (.slice a len cap) l ∧ ∀ b ∈ l, b.2.length ≤ 9223372036854775807 := by
  obtain ⟨fuel, hf⟩ := h
  rcases open_slice Try.underlying41 hf with ⟨hcs, _⟩ | ⟨ad, l, c, m, n, D, Pl, hcs, _, hl, hm, hmm, _, hx⟩
  · simp [Value.cells] at hcs
    obtain ⟨rfl, rfl, rfl⟩ := hcs
    exact ⟨[], ⟨rfl, by omega⟩, ⟨none, 0, rfl, fun hx => absurd rfl hx⟩, fun f hf => by simp at hf⟩
  · simp [Value.cells] at hcs
    obtain ⟨rfl, rfl, rfl⟩ := hcs
    have hC : Try.prog.cellsOf 24 = 2 := by kernel_rfl
    have hlm : len ≤ m := by rw [hmm]; split <;> omega
    rw [hC] at hx
    haveI : Inhabited (Reg × Option Addr × Nat) := ⟨(rgD, none, 0)⟩
    obtain ⟨q, hq⟩ := choose_lt (n := len) (p := fun i (q : Reg × Option Addr × Nat) => (∀ k, k < 2 → W.cell? ((ad.add (i * 2)).add k) = [Value.int .i64 q.1.1, .slice q.2.1 q.1.2.length q.2.2][k]?) ∧ q.1.2.length ≤ 9223372036854775807 ∧ Tics W (.slice q.2.1 q.1.2.length q.2.2) q.1.2) (fun i hi => by
      obtain ⟨cs', h1, h2⟩ := hx i (by omega)
      obtain ⟨_, hlen, hcell⟩ := World.cells?_some h1
      obtain ⟨f, ra, rc, hc, k1, k3⟩ := reg_of_cells h2
      subst hc
      exact ⟨(f, ra, rc), fun k hk => hcell k hk, k1, k3⟩)
    refine ⟨(List.range len).map fun i => (q i).1, ⟨by simp, by unfold maxLen at hm; omega⟩, ?_, ?_⟩
    · refine ⟨some ad, cap, by simp, fun hne => ?_⟩
      have hpos : 0 < len := by
        rcases Nat.eq_zero_or_pos len with h0 | h0
        · subst h0; simp at hne
        · exact h0
      obtain ⟨ab, off, spot⟩ := ad
      have hspot : spot = none := by
        have := World.cell?_spot ((hq 0 hpos).1 0 (by omega))
        simpa [Addr.add] using this
      subst hspot
      refine ⟨ab, off, rfl, fun i hi => ?_⟩
      have hi' : i < len := by simpa using hi
      obtain ⟨h1, _, h4⟩ := hq i hi'
      have ha : ∀ k, (((⟨ab, off, none⟩ : Addr).add (i * 2)).add k) = ⟨ab, off + i * 2 + k, none⟩ := fun k => by rw [addr_add, addr_add]
      have e : ((List.range len).map fun i => (q i).1).getD i rgD = (q i).1 := by
        rw [List.getD_eq_getElem?_getD, List.getElem?_map, List.getElem?_range hi']; rfl
      rw [e]
      have g : ∀ k, k < 2 → W.cell? ⟨ab, off + i * 2 + k, none⟩ = _ := fun k hk => (congrArg W.cell? (ha k)).symm.trans (h1 k hk)
      exact ⟨(q i).2.1, (q i).2.2, g 0 (by omega), g 1 (by omega), h4⟩
    · intro f hf
      obtain ⟨i, hi, rfl⟩ := List.mem_map.1 hf
      obtain ⟨_, h2, _⟩ := hq i (List.mem_range.1 hi)
      exact h2
end Go.Proofs.Ytlhjhdlpejpooab
