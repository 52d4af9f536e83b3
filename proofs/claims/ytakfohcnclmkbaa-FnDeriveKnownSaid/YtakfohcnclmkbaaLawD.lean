/- What the laws of chapter 11 share. -/
import Derived.Test.YtakfohcnclmkbaaDrDb
import Derived.Test.YtakfohcnclmkbaaAppIs
import Derived.Test.YtakfohcnclmkbaaIDr
import Derived.Test.YtakfohcnclmkbaaIGd
import Derived.Test.YtakfohcnclmkbaaHasI
import Derived.Test.YtakfohcnclmkbaaSame
namespace Go.Proofs.Ytakfohcnclmkbaa
open Go.RowKit
set_option linter.unusedVariables false
set_option linter.unusedSimpArgs false

theorem Bxs.shape {w : World} {v : Value} {l : List Bx} (h : Bxs w v l) : ∃ a c, v = .slice a l.length c := by obtain ⟨a, c, rfl, _⟩ := h; exact ⟨a, c, rfl⟩
theorem Ints.shape {w : World} {v : Value} {l : List Int} (h : Ints w v l) : ∃ a c, v = .slice a l.length c := by obtain ⟨a, c, rfl, _⟩ := h; exact ⟨a, c, rfl⟩
/-- What Derive's list is good for. -/
structure DsOk (l : List Bx) (k ds : List Int) : Prop where
  mem : ∀ n, n ∈ ds ↔ Ders l k n
  len : ds.length ≤ 20
  sorted : ds.Pairwise (· < ·)
theorem DsOk.mk' (l : List Bx) (k : List Int) : DsOk l k (dl l k) := ⟨fun _ => mem_dl, dl_len l k, dl_sorted l k⟩
theorem DsOk.valid {l : List Bx} {k ds : List Int} (h : DsOk l k ds) (hne : ds ≠ []) : bsok l = true ∧ kok k = true := by
  cases ds with
  | nil => exact absurd rfl hne
  | cons x t => exact ((h.mem x).1 List.mem_cons_self).1
theorem DsOk.known {l : List Bx} {k ds : List Int} (h : DsOk l k ds) (hne : ds ≠ []) {x : Int} (hx : x ∈ k) : x ∈ ds := (h.mem x).2 ⟨h.valid hne, .known hx⟩
theorem DsOk.opens {l : List Bx} {k ds : List Int} (h : DsOk l k ds) {b : Bx} (hb : b ∈ l) (hk : b.1 ∈ ds) {x : Int} (hx : x ∈ b.2) : x ∈ ds := by
  have := (h.mem _).1 hk
  exact (h.mem x).2 ⟨this.1, .opens hb this.2 hx⟩
theorem cell_at {w : World} {a : Option Addr} {n c : Nat} {xs : List Int} (h : Ints w (.slice a n c) xs) {i : Nat} (hi : i < xs.length) : ∃ g o, a = some ⟨g, o, none⟩ ∧ w.cell? ⟨g, o + i, none⟩ = some (.int .i64 (xs.getD i 0)) ∧ xs.getD i 0 ∈ xs := by
  obtain ⟨g, o, e, hc⟩ := h.cells (by rintro rfl; simp at hi)
  exact ⟨g, o, e, hc i hi, (takeI xs i hi).2⟩
theorem box_at {w : World} {a : Option Addr} {n c : Nat} {l : List Bx} (h : Bxs w (.slice a n c) l) {i : Nat} (hi : i < l.length) : ∃ g o ra rc, a = some ⟨g, o, none⟩ ∧ BxAt w g (o + i * 2) (l.getD i bxD) ra rc ∧ l.getD i bxD ∈ l := by
  obtain ⟨a', c', he, hh⟩ := h
  injection he with he1 he2 he3
  subst he1
  obtain ⟨g, o, e, hc⟩ := hh (by rintro rfl; simp at hi)
  obtain ⟨ra, rc, hb⟩ := hc i hi
  exact ⟨g, o, ra, rc, e, hb, (takeB l i hi).2⟩

end Go.Proofs.Ytakfohcnclmkbaa
