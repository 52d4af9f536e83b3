/- Chapter 11: what guards are good for. -/
import Derived.Test.YtakfohcnclmkbaaLawD
namespace Go.Proofs.Ytakfohcnclmkbaa
open Go.RowKit
set_option linter.unusedVariables false
set_option linter.unusedSimpArgs false

theorem guards_mem {l : List Bx} {k : List Int} {x g : Int} (h1 : 1 ≤ g) (h2 : g ≤ 20) : decide (g ∈ guardsL l k x) = (db l k x && !db (without l g) k x) := by
  cases hq : db l k x with
  | false => rw [guards_no hq]; simp
  | true =>
    rw [guards_yes hq, Bool.true_and, Bool.eq_iff_iff, decide_eq_true_iff, List.mem_filter, mem_upto]
    exact ⟨fun h => h.2, fun h => ⟨⟨h1, h2⟩, h⟩⟩
theorem guards_len (l : List Bx) (k : List Int) (x : Int) : (guardsL l k x).length ≤ 20 := by
  cases hq : db l k x with
  | false => rw [guards_no hq]; simp
  | true =>
    rw [guards_yes hq]
    have := List.length_filter_le (fun g => !db (without l g) k x) (upto 20)
    rw [upto_len] at this; exact this
/-- What is not derivable opens no box. -/
theorem der_without {l : List Bx} {k : List Int} {g x : Int} (hg : ¬ Der l k g) (h : Der l k x) : Der (without l g) k x := by
  refine (Der.least (S := fun a => Der (without l g) k a ∧ Der l k a) (fun a ha => ⟨.known ha, .known ha⟩) (fun b hb hs a ha => ?_) h).1
  exact ⟨.opens (mem_without.2 ⟨hb, fun e => hg (e ▸ hs.2)⟩) hs.1 ha, .opens hb hs.2 ha⟩
theorem guards_known {l : List Bx} {k : List Int} {x g : Int} (h : g ∈ guardsL l k x) : db l k g = true := by
  cases hq : db l k x with
  | false => rw [guards_no hq] at h; simp at h
  | true =>
    rw [guards_yes hq, List.mem_filter] at h
    obtain ⟨⟨hv, hk⟩, hd⟩ := db_iff.1 hq
    cases hg : db l k g with
    | true => rfl
    | false =>
      have hn : ¬ Der l k g := fun hd' => by rw [db_iff.2 ⟨⟨hv, hk⟩, hd'⟩] at hg; cases hg
      have : db (without l g) k x = true := db_iff.2 ⟨⟨bsok_without g hv, hk⟩, der_without hn hd⟩
      rw [this] at h
      simp at h
theorem guards_not {l : List Bx} {k : List Int} {x : Int} (h : guardsL l k x ≠ []) : x ∉ k := by
  intro hx
  cases hq : db l k x with
  | false => exact h (guards_no hq)
  | true =>
    obtain ⟨⟨hv, hk⟩, hd⟩ := db_iff.1 hq
    refine h ?_
    rw [guards_yes hq, List.filter_eq_nil_iff]
    intro g _
    rw [db_iff.2 ⟨⟨bsok_without g hv, hk⟩, .known hx⟩]
    simp

end Go.Proofs.Ytakfohcnclmkbaa
