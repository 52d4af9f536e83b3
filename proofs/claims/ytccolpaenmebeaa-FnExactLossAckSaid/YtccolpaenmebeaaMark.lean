/- The contracts of markIntS and heldIntS. -/
import Derived.Test.YtccolpaenmebeaaInts
import Derived.Laws.OwnMore
namespace Go.Proofs.Ytccolpaenmebeaa
open Go.RowKit
set_option linter.unusedVariables false
set_option linter.unusedSimpArgs false

/-- k, k + 1, .. -/
def marks (k n : Nat) : List Int := (List.range n).map (fun i => ((k + i : Nat) : Int))
theorem marks_len (k n : Nat) : (marks k n).length = n := by simp [marks]
theorem marks_at (k n i : Nat) (h : i < n) : (marks k n).getD i 0 = ((k + i : Nat) : Int) := by
  simp [marks, List.getD_eq_getElem?_getD, List.getElem?_map, List.getElem?_range h]
def mk (k j : Nat) (xs : List Int) : List Int := marks k j ++ xs.drop j
theorem mk_len (k j : Nat) (xs : List Int) (h : j ≤ xs.length) : (mk k j xs).length = xs.length := by simp [mk, marks_len]; omega
theorem mk_zero (k : Nat) (xs : List Int) : mk k 0 xs = xs := by simp [mk, marks]
theorem mk_all (k : Nat) (xs : List Int) : mk k xs.length xs = marks k xs.length := by simp [mk]
theorem mk_step (k j : Nat) (xs : List Int) (h : j < xs.length) : ((mk k j xs).map (Value.int .i64)).set j (.int .i64 ((k : Int) + j)) = (mk k (j + 1) xs).map (Value.int .i64) := by
  have e : marks k (j + 1) = marks k j ++ [((k + j : Nat) : Int)] := by simp [marks, List.range_succ]
  have d : xs.drop j = xs[j] :: xs.drop (j + 1) := List.drop_eq_getElem_cons h
  have l := marks_len k j
  have c : ((k + j : Nat) : Int) = (k : Int) + j := by omega
  unfold mk
  rw [e, d, List.map_append, List.map_cons, List.set_append_right _ _ (by rw [List.length_map, l]; exact Nat.le_refl _), List.length_map, l, Nat.sub_self, List.set_cons_zero, List.append_assoc, List.map_append, List.singleton_append, List.map_cons, c]

set_option maxHeartbeats 1000000 in
theorem mark_any (v : Value) (xs : List Int) (B : Nat) (w : World) (k : Nat) (h : w.ownsRow B 3 1 v xs.length (xs.map (Value.int .i64))) (hk : k ≤ 1000000) (hx : xs.length ≤ 1000000) :
    Calls Try.prog 27 #[v, .int .i64 k] w fun e w' => e = .returned (.int .i64 ((k : Int) + xs.length)) ∧ w.grownBy w' v.ownBlock ∧ w'.ownsRow B 3 1 v xs.length ((marks k xs.length).map (Value.int .i64)) := by
  have h' := h
  obtain ⟨_, ⟨rfl, h0⟩ | ⟨g, c, cur, rfl, hB, _⟩⟩ := h'
  · have hx0 : xs = [] := List.length_eq_zero_iff.1 h0
    subst hx0
    have H := Lib.hid h
    clear h h0
    go_enter Try.func27, Try.ntmps27
    go_wp2_with fail
    go_rounds 1
    go_ret
    exact ⟨ret_int (by simp), World.grownBy.refl _ _, by simpa [marks] using H.out⟩
  · have H := Lib.hid h
    clear h
    go_enter Try.func27, Try.ntmps27
    go_wp2_with fail
    go_loopw [1, 5] (fun kv iv wr => ∃ j : Nat, j ≤ xs.length ∧ kv = .int .i64 ((k : Int) + j) ∧ iv = .int .i64 j ∧ w.grownBy wr (some g) ∧ wr.ownsRow B 3 1 (.slice (some ⟨g, 0, none⟩) xs.length c) xs.length ((mk k j xs).map (Value.int .i64))) (fun _ iv _ => xs.length - (intOf iv).toNat)
    case atStart => exact ⟨0, Nat.zero_le _, by simp, rfl, World.grownBy.refl _ _, by rw [mk_zero]; exact H.out⟩
    case round =>
      obtain ⟨j, hj, rfl, rfl, hg, ho⟩ := hrel
      by_cases hlt : j < xs.length
      · have hlt' : (j : Int) < (xs.length : Int) := by omega
        obtain ⟨st1, st2⟩ := ho.stored j (.int .i64 ((k : Int) + j))
        rw [mk_step k j xs hlt] at st1
        have hc := ho.cellAt j (by omega)
        rw [List.getElem?_map, List.getElem?_eq_getElem (by rw [mk_len _ _ _ hj]; exact hlt)] at hc
        have hf := ho.frozenAt j
        have ST1 := Lib.hid st1
        have ST2 := Lib.hid (hg.trans st2)
        clear st1 st2 ho hg
        generalize (mk k j xs)[j]'_ = old at hc
        simp only [Option.map_some] at hc
        go_wp2_with fail
        go_roundw
        case rel => exact ⟨j + 1, by omega, by go_num, by go_num, ST2.out, ST1.out⟩
        case measure => simp [intOf]; omega
      · have he : j = xs.length := by omega
        have HE := Lib.hid he
        have HO := Lib.hid ho
        clear ho he
        go_wp2
        go_ret
        exact ⟨ret_int (by have := HE.out; omega), hg, by have := HO.out; rw [HE.out, mk_all] at this; exact this⟩

set_option maxHeartbeats 1000000 in
theorem held_any (v : Value) (n : Nat) (w : World) (k : Nat) (h : Ints w v (marks k n)) (hk : k ≤ 1000000) (hx : n ≤ 1000000) :
    Calls Try.prog 28 #[v, .int .i64 k] w fun e w' => e = .returned (.int .i64 ((k : Int) + n)) ∧ w = w' := by
  obtain ⟨a, c, rfl, h⟩ := h
  rw [marks_len]
  by_cases h0 : n = 0
  · subst h0
    clear h
    go_enter Try.func28, Try.ntmps28
    go_wp2_with fail
    go_rounds 1
    go_ret
    exact ⟨ret_int (by simp), rfl⟩
  · obtain ⟨g, o, rfl, hc⟩ := h (by intro e; have := marks_len k n; rw [e] at this; simp at this; omega)
    rw [marks_len] at hc
    have HC := Lib.hid hc
    clear hc h h0
    go_enter Try.func28, Try.ntmps28
    go_wp2_with fail
    go_loop [1, 5] (fun kv iv => ∃ j : Nat, j ≤ n ∧ kv = .int .i64 ((k : Int) + j) ∧ iv = .int .i64 j) (fun _ iv => n - (intOf iv).toNat)
    case atStart => exact ⟨0, Nat.zero_le _, by simp, rfl⟩
    case round =>
      obtain ⟨j, hj, rfl, rfl⟩ := hrel
      by_cases hlt : j < n
      · have hlt' : (j : Int) < (n : Int) := by omega
        have hcell : w.cell? ⟨g, o + j, none⟩ = some (.int .i64 ((k : Int) + j)) := by rw [HC.out j hlt, marks_at k n j hlt]; rfl
        go_wp2_with fail
        go_round
        case rel => exact ⟨j + 1, by omega, by go_num, by go_num⟩
        case measure => simp [intOf]; omega
      · have he : j = n := by omega
        have HE := Lib.hid he
        clear he
        go_wp2
        go_ret
        exact ⟨ret_int (by have := HE.out; omega), rfl⟩

theorem mark_one (v : Value) (xs : List Int) (B : Nat) (w : World) (h : w.ownsRow B 3 1 v xs.length (xs.map (Value.int .i64))) (hx : xs.length ≤ 1000000) :
    Calls Try.prog 27 #[v, .int .i64 1] w fun e w' => e = .returned (.int .i64 (1 + xs.length)) ∧ w.grownBy w' v.ownBlock ∧ w'.ownsRow B 3 1 v xs.length ((marks 1 xs.length).map (Value.int .i64)) :=
  mark_any v xs B w 1 h (by omega) hx
theorem held_one (v : Value) (n : Nat) (w : World) (h : Ints w v (marks 1 n)) (hx : n ≤ 1000000) :
    Calls Try.prog 28 #[v, .int .i64 1] w fun e w' => e = .returned (.int .i64 (1 + n)) ∧ w = w' :=
  held_any v n w 1 h (by omega) hx

end Go.Proofs.Ytccolpaenmebeaa
