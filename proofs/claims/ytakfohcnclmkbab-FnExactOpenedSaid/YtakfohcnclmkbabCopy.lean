/- The contract of toIntS: a copy in new memory. -/
import Derived.Test.YtakfohcnclmkbabInts
import Derived.Laws.OwnMore
namespace Go.Proofs.Ytakfohcnclmkbab
open Go.RowKit
set_option linter.unusedVariables false
set_option linter.unusedSimpArgs false

def cpy (j : Nat) (xs : List Int) : List Int := xs.take j ++ List.replicate (xs.length - j) 0
theorem cpy_len (j : Nat) (xs : List Int) (h : j ≤ xs.length) : (cpy j xs).length = xs.length := by simp [cpy]; omega
theorem cpy_all (xs : List Int) : cpy xs.length xs = xs := by simp [cpy]
theorem cpy_step (j : Nat) (xs : List Int) (h : j < xs.length) : ((cpy j xs).map (Value.int .i64)).set j (.int .i64 (xs.getD j 0)) = (cpy (j + 1) xs).map (Value.int .i64) := by
  have e : xs.take (j + 1) = xs.take j ++ [xs[j]] := List.take_succ_eq_append_getElem h
  have d : List.replicate (xs.length - j) (0 : Int) = 0 :: List.replicate (xs.length - (j + 1)) 0 := by
    have : xs.length - j = (xs.length - (j + 1)) + 1 := by omega
    rw [this, List.replicate_succ]
  have l : (xs.take j).length = j := by simp; omega
  have x : xs.getD j 0 = xs[j] := by rw [List.getD_eq_getElem?_getD, List.getElem?_eq_getElem h]; rfl
  unfold cpy
  rw [e, d, x, List.map_append, List.map_cons, List.set_append_right _ _ (by rw [List.length_map, l]; exact Nat.le_refl _), List.length_map, l, Nat.sub_self, List.set_cons_zero, List.append_assoc, List.map_append, List.singleton_append, List.map_cons]

def Copied (w : World) (xs : List Int) (e : Ending) (w' : World) : Prop :=
  ∃ v : Value, e = .returned v ∧ Below w.heap.size w w' ∧ w'.ownsRow w.heap.size 3 1 v xs.length (xs.map (Value.int .i64)) ∧ v ≠ .slice none 0 0

set_option maxHeartbeats 1000000 in
theorem toInt_any (v : Value) (xs : List Int) (w : World) (h : Ints w v xs) (hx : xs.length ≤ 1048576) :
    Calls Try.prog 14 #[v] w (Copied w xs) := by
  obtain ⟨i0, hi, hz0, hz1, hz2⟩ := info_parts try_infoInt
  have HI := Lib.hid hi
  obtain ⟨a, c, rfl, h⟩ := h
  have HC := Lib.hid h
  clear hi h
  go_enter Try.func14, Try.ntmps14
  go_wp2_with (at_make; refine wpList_make_full _ rfl _ _ 29 rfl w.heap.size 3 i0 (.int .i64 0) 1 Try.underlying29 HI.out hz0 hz1 .i64 .i64 _ _ xs.length rfl rfl rfl rfl (by rw [hz2]; omega) (by unfold maxLen; omega) (Nat.le_refl _) ?_)
  intro w1 hown hgrow
  have hb1 : Below w.heap.size w w1 := (Below.refl _ _).grown hgrow (Nat.le_refl _) (fun k hk => by cases hk)
  have B1 := Lib.hid hb1
  have hinit : (madeCells #[Value.int .i64 0] xs.length).toList = (cpy 0 xs).map (Value.int .i64) := by
    rw [toList_madeCells_one]
    simp [cpy]
  rw [hinit] at hown
  have O1 := Lib.hid hown
  have hsz := hb1.size
  clear hown hgrow hinit hb1
  go_wp2_with fail
  go_loopw [4] (fun iv wr => ∃ j : Nat, j ≤ xs.length ∧ iv = .int .i64 j ∧ Below w.heap.size w wr ∧ wr.ownsRow w.heap.size 3 1 (.slice (some ⟨w.heap.size, 0, none⟩) xs.length xs.length) xs.length ((cpy j xs).map (Value.int .i64))) (fun iv _ => xs.length - (intOf iv).toNat)
  case atStart => exact ⟨0, Nat.zero_le _, rfl, B1.out, O1.out⟩
  case round =>
    obtain ⟨j, hj, rfl, hb, ho⟩ := hrel
    by_cases hlt : j < xs.length
    · have hlt' : (j : Int) < (xs.length : Int) := by omega
      obtain ⟨g, o, rfl, hc⟩ := HC.out (by rintro rfl; simp at hlt)
      have e1 := hc j hlt
      have hg := World.block_lt_of_cell? w _ e1
      have hne : g ≠ w.heap.size := by simp at hg; omega
      have e1 := (hb.cell hg).trans e1
      obtain ⟨st1, st2⟩ := ho.stored j (.int .i64 (xs.getD j 0))
      rw [cpy_step j xs hlt] at st1
      have hcl := ho.cellAt j (by omega)
      rw [List.getElem?_map, List.getElem?_eq_getElem (by rw [cpy_len _ _ hj]; exact hlt)] at hcl
      have hf := ho.frozenAt j
      have ST1 := Lib.hid st1
      have ST2 := Lib.hid (hb.setCell (p := ⟨w.heap.size, j, none⟩) (Nat.le_refl _) (.int .i64 (xs.getD j 0)))
      clear st1 st2 ho hb hc hg
      generalize (cpy j xs)[j]'_ = old at hcl
      simp only [Option.map_some] at hcl
      generalize xs.getD j 0 = z at *
      go_wp2_with fail
      go_roundw
      case rel => exact ⟨j + 1, by omega, by go_num, ST2.out, ST1.out⟩
      case measure => simp [intOf]; omega
    · have he : j = xs.length := by omega
      have HE := Lib.hid he
      have HO := Lib.hid ho
      clear ho he
      go_wp2
      go_ret
      exact ⟨_, rfl, hb, by have := HO.out; rw [HE.out, cpy_all] at this; exact this, by simp⟩

end Go.Proofs.Ytakfohcnclmkbab
