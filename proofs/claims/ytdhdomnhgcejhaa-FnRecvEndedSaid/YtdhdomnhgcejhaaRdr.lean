/- The reader as a state: 'Rdr w b k': block b holds a reader whose place is at most k. Contracts of l6Open and pick in these words. -/
import Derived.Test.YtdhdomnhgcejhaaPick
import Derived.Lib.BufferWrite
import Derived.Lib.BufferOwn
import Derived.Deep.AppendLies
namespace Go.Proofs.Ytdhdomnhgcejhaa
open Go.RowKit
set_option linter.unusedVariables false
set_option linter.unusedSimpArgs false

def Rdr (w : World) (b k : Nat) : Prop :=
  b < w.heap.size ∧ ∃ (p : Nat) (a : Option Addr) (len cap : Nat) (zs : List Int), p ≤ k ∧ Rd w b p a len cap zs ∧ ∀ x, a = some x → 0 < cap → x.block < b

theorem Rdr.le {w : World} {b k k' : Nat} (h : Rdr w b k) (hk : k ≤ k') : Rdr w b k' := by
  obtain ⟨h0, p, a, len, cap, zs, h1, h2⟩ := h
  exact ⟨h0, p, a, len, cap, zs, by omega, h2⟩

theorem IsRow.keep {k : IntKind} {w w' : World} {a : Option Addr} {len cap : Nat} {zs : List Int} (h : IsRow k w a len cap zs) (hb : ∀ x, a = some x → 0 < cap → ∀ i v, w.cell? (x.add i) = some v → w'.cell? (x.add i) = some v) : IsRow k w' a len cap zs := by
  rcases h with h | ⟨x, rfl, h1, h2, h3, h4, h5⟩
  · exact .inl h
  · exact .inr ⟨x, rfl, h1, h2, h3, fun i hi => hb x rfl (by omega) i _ (h4 i hi), h5⟩
theorem add_block (x : Addr) (i : Nat) : (x.add i).block = x.block := by unfold Addr.add; split <;> rfl

/-- A step that writes nothing but new blocks and another block than the reader's and the code's. -/
theorem Rdr.grown {w w' : World} {b k : Nat} (h : Rdr w b k) {row : Option Nat} (hg : w.grownBy w' row) (hr : ∀ r, row = some r → b < r) : Rdr w' b k := by
  obtain ⟨h0, p, a, len, cap, zs, h1, ⟨c0, c1, fr, row', far⟩, h2⟩ := h
  have hne : ∀ c : Nat, c ≤ b → some c ≠ row := fun c hc e => by have := hr c e.symm; omega
  refine ⟨Nat.lt_of_lt_of_le h0 hg.size, p, a, len, cap, zs, h1, ⟨hg.cell c0 (hne _ (Nat.le_refl _)), hg.cell c1 (hne _ (Nat.le_refl _)), ?_, ?_, far⟩, h2⟩
  · rw [hg.frozen_far _ h0 (hne _ (Nat.le_refl _))]; exact fr
  · refine row'.keep fun x hx hcp i v hv => hg.cell hv (hne _ ?_)
    rw [add_block]; have := h2 x hx hcp; omega
theorem Rdr.below {w w' : World} {b k : Nat} (h : Rdr w b k) (hb : Below w.heap.size w w') : Rdr w' b k :=
  h.grown (row := none) ⟨hb.os, hb.tape, hb.output, hb.size, fun i hi _ => hb.block i hi⟩ (fun r e => by cases e)

def PickedR (w : World) (b k : Nat) (n : Int) (e : Ending) (w' : World) : Prop :=
  ∃ x : Nat, (x : Int) < n ∧ e = .returned (.int .i64 x) ∧ w.grownBy w' (some b) ∧ Rdr w' b (k + 1)

theorem grown_drewN {w w' : World} {row : Option Nat} (h : w.grownBy w' row) : ∀ m, w.grownBy (w'.drewN m) row
  | 0 => h
  | m + 1 => by
    have k := grown_drewN h m
    exact ⟨k.os, k.tape, k.output, k.size, k.block⟩

theorem pick_rdr (b k : Nat) (n : Int) (w : World) (R : Rdr w b k) (hn : 1 ≤ n) (hn2 : n ≤ 1000000) (hk : k ≤ 1000000) :
    Calls Try.prog 49 #[.pointer (some ⟨b, 0, none⟩), .int .i64 n] w (PickedR w b k n) := by
  obtain ⟨h0, p, a, len, cap, zs, h1, hR, h2⟩ := R
  refine (pick_any b p a len cap zs n w hR hn hn2 (by omega)).mono ?_
  rintro e w' ⟨x, m, hx0, hx1, rfl, rfl⟩
  obtain ⟨x, rfl⟩ := Int.eq_ofNat_of_zero_le hx0
  have hg : w.grownBy (w.setCell ⟨b, 1, none⟩ (.int .i64 ((p : Int) + 1))) (some b) := Lib.grownBy_setCell w b 1 _
  refine ⟨x, hx1, rfl, grown_drewN hg m, ?_⟩
  obtain ⟨c0, c1, fr, row, far⟩ := hR
  have key : Rdr (w.setCell ⟨b, 1, none⟩ (.int .i64 ((p : Int) + 1))) b (k + 1) := by
    refine ⟨Nat.lt_of_lt_of_le h0 hg.size, p + 1, a, len, cap, zs, by omega, ⟨set_other w b _ _ _ (by simp) c0, ?_, ?_, ?_, far⟩, h2⟩
    · rw [World.cell?_setCell_same (h := c1)]; rfl
    · rw [World.frozen?_setCell]; exact fr
    · exact row.keep fun x hx hcp i v hv => hg.cell hv (by rw [add_block]; intro e; exact far x hx hcp (by injection e))
  exact key.grown (row := none) (grown_drewN (World.grownBy.refl _ _) m) (fun r e => by cases e)

theorem opened (w : World) (a : Option Addr) (len cap : Nat) (zs : List Int) (T : TypeId) (h : IsRow .u8 w a len cap zs) : Rdr (w.alloc (.cells #[.slice a len cap, .int .i64 0] T)) w.heap.size 0 := by
  have hlt : ∀ x, a = some x → 0 < cap → x.block < w.heap.size := by
    intro x hx hc
    rcases h with ⟨rfl, _⟩ | ⟨y, rfl, h1, h2, h3, h4, h5⟩
    · cases hx
    · injection hx with hx
      subst hx
      have := World.block_lt_of_cell? w _ (h4 0 (by omega))
      rwa [add_block] at this
  have hg := World.grownBy_alloc w (.cells #[.slice a len cap, .int .i64 0] T) none
  refine ⟨by simp, 0, a, len, cap, zs, Nat.le_refl _, ⟨?_, ?_, ?_, ?_, fun x hx hc => by have := hlt x hx hc; omega⟩, hlt⟩
  · rw [World.cell?_alloc_mark]; rfl
  · rw [World.cell?_alloc_mark]; rfl
  · simp
  · exact h.keep fun x hx hc i v hv => hg.cell hv (by simp)

set_option maxRecDepth 100000 in
set_option maxHeartbeats 400000 in
theorem open_any (a : Option Addr) (len cap : Nat) (zs : List Int) (w : World) (h : IsRow .u8 w a len cap zs) :
    Calls Try.prog 36 #[.slice a len cap] w fun e w' => e = .returned (.pointer (some ⟨w.heap.size, 0, none⟩)) ∧ Below w.heap.size w w' ∧ Rdr w' w.heap.size 0 := by
  have h' := h
  have HH := Lib.hid h'
  clear h'
  rcases h with ⟨rfl, rfl, rfl, rfl⟩ | ⟨x, rfl, hl, hm, hz, hcell, hwz⟩
  · go_enter Try.func36, Try.ntmps36
    go_wp2
    go_ret
    exact ⟨rfl, (Below.refl _ _).alloc (Nat.le_refl _) _, opened w _ _ _ _ _ HH.out⟩
  · unfold maxLen at hm
    by_cases hb : 2000 < len
    · have k : IsRow .u8 w (some x) 2000 cap zs := .inr ⟨x, rfl, by omega, hm, hz, hcell, hwz⟩
      have HK := Lib.hid k
      clear k hcell hwz
      go_enter Try.func36, Try.ntmps36
      go_wp2
      go_ret
      exact ⟨rfl, (Below.refl _ _).alloc (Nat.le_refl _) _, opened w _ _ _ _ _ HK.out⟩
    · clear hcell hwz
      go_enter Try.func36, Try.ntmps36
      go_wp2
      go_ret
      exact ⟨rfl, (Below.refl _ _).alloc (Nat.le_refl _) _, opened w _ _ _ _ _ HH.out⟩

end Go.Proofs.Ytdhdomnhgcejhaa
