/- What the exact laws of chapter 11 share. -/
import Derived.Test.YtakfohcnclmkbabMkBx
import Derived.Test.YtakfohcnclmkbabEqBx
import Derived.Test.YtakfohcnclmkbabRowBx
import Derived.Test.YtakfohcnclmkbabIGd
import Derived.Test.YtakfohcnclmkbabIDr
namespace Go.Proofs.Ytakfohcnclmkbab
open Go.RowKit
set_option linter.unusedVariables false
set_option linter.unusedSimpArgs false

theorem openedL_len10 (l : List Bx) (k : List Int) : (openedL l k).length ≤ 10 := by
  unfold openedL
  rw [List.length_map]
  cases hv : bsok l with
  | true =>
    have h1 := (bsok_iff.1 hv).1
    have := List.length_filter_le (fun i => db l k (l.getD i (0, [])).1) (List.range l.length)
    rw [List.length_range] at this
    omega
  | false =>
    have : (List.range l.length).filter (fun i => db l k (l.getD i (0, [])).1) = [] := by
      rw [List.filter_eq_nil_iff]
      intro i _ h
      have := (db_iff.1 h).1.1
      rw [hv] at this
      cases this
    rw [this]; simp
theorem guardsL_len (l : List Bx) (k : List Int) (x : Int) : (guardsL l k x).length ≤ 20 := by
  cases hq : db l k x with
  | false => rw [guards_no hq]; simp
  | true =>
    rw [guards_yes hq]
    have := List.length_filter_le (fun g => !db (without l g) k x) (upto 20)
    rw [upto_len] at this; exact this
theorem Ints.shape {w : World} {v : Value} {l : List Int} (h : Ints w v l) : ∃ a c, v = .slice a l.length c := by obtain ⟨a, c, rfl, _⟩ := h; exact ⟨a, c, rfl⟩
/-- The ints of a copy may be written. -/
theorem own_ic {w : World} {B q n c : Nat} {xs : List Int} (h : OwnI w B (.slice (some ⟨q, 0, none⟩) xs.length c) xs) : ∀ j, j < xs.length → IC w ⟨q, j, none⟩ := fun k hk => by
  have hc := World.ownsRow.cellAt h k (by omega)
  rw [List.getElem?_map, List.getElem?_eq_getElem hk] at hc
  exact ⟨⟨_, hc⟩, World.ownsRow.frozenAt h k⟩
/-- A copy is a slice of a block. -/
theorem copied_form {w w' : World} {xs : List Int} {e : Ending} (h : Copied w xs e w') : ∃ q c, e = .returned (.slice (some ⟨q, 0, none⟩) xs.length c) ∧ Below w.heap.size w w' ∧ OwnI w' w.heap.size (.slice (some ⟨q, 0, none⟩) xs.length c) xs := by
  obtain ⟨v, rfl, hb, ho, hne⟩ := h
  have ho' := ho
  obtain ⟨_, ⟨e, _⟩ | ⟨g, c, cur, e, _⟩⟩ := ho
  · exact absurd e hne
  · subst e; exact ⟨g, c, rfl, hb, ho'⟩
def LstPost (w : World) (xs : List Int) (e : Ending) (w' : World) : Prop := ∃ v, e = .returned v ∧ Below w.heap.size w w' ∧ OwnI w' w.heap.size v xs

end Go.Proofs.Ytakfohcnclmkbab
