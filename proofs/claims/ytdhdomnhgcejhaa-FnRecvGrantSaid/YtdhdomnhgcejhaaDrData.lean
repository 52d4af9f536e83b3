/- The drawn payloads: l91Data. -/
import Derived.Test.YtdhdomnhgcejhaaRdr
import Derived.Test.YtdhdomnhgcejhaaFrm
namespace Go.Proofs.Ytdhdomnhgcejhaa
open Go.RowKit
set_option linter.unusedVariables false
set_option linter.unusedSimpArgs false

def DrewStr (P : ByteArray → Prop) (w : World) (b k s : Nat) (e : Ending) (w' : World) : Prop :=
  ∃ d : ByteArray, P d ∧ e = .returned (.string d) ∧ w.grownBy w' (some b) ∧ Rdr w' b (k + s)

set_option maxRecDepth 100000 in
set_option maxHeartbeats 1000000 in
theorem of_any (b k g n c : Nat) (ds : Nat → ByteArray) (w : World) (R : Rdr w b k) (hk : k ≤ 900000) (hn : 1 ≤ n) (hn2 : n ≤ 1000) (hg : g ≠ b) (hgw : g < w.heap.size) (hc : ∀ i, i < n → w.cell? ⟨g, i, none⟩ = some (.string (ds i))) :
    Calls Try.prog 59 #[.pointer (some ⟨b, 0, none⟩), .slice (some ⟨g, 0, none⟩) n c] w (DrewStr (fun d => ∃ i, i < n ∧ d = ds i) w b k 1) := by
  have HC := Lib.hid hc
  clear hc
  go_enter Try.func59, Try.ntmps59
  go_wp2_with fail
  refine (pick_rdr b _ _ _ R (by omega) (by omega) (by omega)).mono ?_
  rintro e w1 ⟨x, hx, rfl, hg1, hR1⟩
  have hxn : x < n := by omega
  have h0 : (0 : Int) ≤ (x : Int) := by omega
  have hx' : (x : Int) < (n : Int) := by omega
  have q : w1.cell? ⟨g, x, none⟩ = some (.string (ds x)) := (World.grownBy.cell_far hg1 ⟨g, x, none⟩ hgw (by intro h; injection h with h; exact hg h)).trans (HC.out x hxn)
  go_wp2_with fail
  go_ret
  exact ⟨ds x, ⟨x, hxn, rfl⟩, rfl, hg1, hR1⟩

/-- What is in the list of payloads. -/
def pays : List ByteArray := [⟨#[]⟩, ⟨#[97]⟩, ⟨#[97, 98]⟩, ⟨#[97, 98, 99]⟩, ⟨#[104, 101, 108, 108, 111]⟩, ⟨#[100, 97, 116, 97, 32, 100, 97, 116, 97]⟩, ⟨#[48, 49, 50, 51, 52, 53, 54, 55, 56, 57, 97, 98]⟩, ⟨#[120]⟩]

set_option maxRecDepth 100000 in
set_option maxHeartbeats 1000000 in
theorem data_any (b k : Nat) (w : World) (R : Rdr w b k) (hk : k ≤ 900000) :
    Calls Try.prog 38 #[.pointer (some ⟨b, 0, none⟩)] w (DrewStr (fun d => d.size ≤ 12) w b k 1) := by
  have hbl := R.1
  go_enter Try.func38, Try.ntmps38
  go_wp2_with fail
  have RA := R.below ((Below.refl w.heap.size w).alloc (Nat.le_refl _) (.cells (pays.map Value.string).toArray 9))
  have FA := Frm.new w 9 (pays.map Value.string)
  have GA := World.grownBy_alloc w (.cells (pays.map Value.string).toArray 9) (some b)
  refine (of_any b k w.heap.size 8 8 (fun i => pays.getD i ⟨#[]⟩) _ RA hk (by omega) (by omega) (by omega) (by simp) (fun i hi => (FA i).trans ?_)).mono ?_
  · have : i < pays.length := hi
    rw [List.getElem?_map, List.getD_eq_getElem?_getD, List.getElem?_eq_getElem this]; rfl
  rintro e w1 ⟨d, ⟨i, hi, hd⟩, rfl, hg1, hR1⟩
  have hds : d.size ≤ 12 := by
    rw [hd]
    have : i = 0 ∨ i = 1 ∨ i = 2 ∨ i = 3 ∨ i = 4 ∨ i = 5 ∨ i = 6 ∨ i = 7 := by omega
    rcases this with rfl | rfl | rfl | rfl | rfl | rfl | rfl | rfl <;> decide
  have G1 := Lib.hid (World.grownBy.trans GA hg1)
  clear hd hg1 FA RA GA
  go_wp2_with fail
  go_ret
  exact ⟨d, hds, rfl, G1.out, hR1⟩
end Go.Proofs.Ytdhdomnhgcejhaa
