/- markWindowS and heldWindowS. -/
import Derived.Test.YtfggldholaibeaaWdRow
namespace Go.Proofs.Ytfggldholaibeaa
open Go.RowKit
set_option linter.unusedVariables false
set_option linter.unusedSimpArgs false

/-- (1, 2, 3, 4), (5, 6, 7, 8), .. -/
def wmarks (n : Nat) : List Wd := (List.range n).map (fun (i : Nat) => (1 + 4 * (i : Int), 1 + 4 * (i : Int) + 1, 1 + 4 * (i : Int) + 2, 1 + 4 * (i : Int) + 3))
theorem wmarks_len (n : Nat) : (wmarks n).length = n := by simp [wmarks]
theorem wmarks_at (n i : Nat) (h : i < n) : (wmarks n).getD i wdD = (1 + 4 * (i : Int), 1 + 4 * (i : Int) + 1, 1 + 4 * (i : Int) + 2, 1 + 4 * (i : Int) + 3) := by
  simp [wmarks, List.getD_eq_getElem?_getD, List.getElem?_map, List.getElem?_range h]
def wmk (j : Nat) (l : List Wd) : List Wd := wmarks j ++ l.drop j
theorem wmk_len (j : Nat) (l : List Wd) (h : j ≤ l.length) : (wmk j l).length = l.length := by simp [wmk, wmarks_len]; omega
theorem wmk_zero (l : List Wd) : wmk 0 l = l := by simp [wmk, wmarks]
theorem wmk_all (l : List Wd) : wmk l.length l = wmarks l.length := by simp [wmk]
theorem wmk_step (j : Nat) (l : List Wd) (h : j < l.length) : ((((wcells (wmk j l)).set (j * 4) (.int .i64 (1 + 4 * (j : Int)))).set (j * 4 + 1) (.int .i64 (1 + 4 * (j : Int) + 1))).set (j * 4 + 2) (.int .i64 (1 + 4 * (j : Int) + 2))).set (j * 4 + 3) (.int .i64 (1 + 4 * (j : Int) + 3)) = wcells (wmk (j + 1) l) := by
  have e : wmarks (j + 1) = wmarks j ++ [(1 + 4 * (j : Int), 1 + 4 * (j : Int) + 1, 1 + 4 * (j : Int) + 2, 1 + 4 * (j : Int) + 3)] := by simp [wmarks, List.range_succ]
  have d : l.drop j = l[j] :: l.drop (j + 1) := List.drop_eq_getElem_cons h
  have hl : (wcells (wmarks j)).length = j * 4 := by rw [wcells_len, wmarks_len]
  unfold wmk
  rw [e, d, wcells_app, wcells_app, wcells_app]
  have e1 : wcells (l[j] :: l.drop (j + 1)) = .int .i64 l[j].1 :: .int .i64 l[j].2.1 :: .int .i64 l[j].2.2.1 :: .int .i64 l[j].2.2.2 :: wcells (l.drop (j + 1)) := rfl
  have e2 : wcells [((1 + 4 * (j : Int), 1 + 4 * (j : Int) + 1, 1 + 4 * (j : Int) + 2, 1 + 4 * (j : Int) + 3) : Wd)] = [.int .i64 (1 + 4 * (j : Int)), .int .i64 (1 + 4 * (j : Int) + 1), .int .i64 (1 + 4 * (j : Int) + 2), .int .i64 (1 + 4 * (j : Int) + 3)] := by simp [wcells, wcell]
  rw [e1, e2, List.set_append_right _ _ (by omega), hl, Nat.sub_self, List.set_cons_zero, List.set_append_right _ _ (by omega), hl, show j * 4 + 1 - j * 4 = 1 by omega, List.set_cons_succ, List.set_cons_zero, List.set_append_right _ _ (by omega), hl, show j * 4 + 2 - j * 4 = 2 by omega, List.set_cons_succ, List.set_cons_succ, List.set_cons_zero, List.set_append_right _ _ (by omega), hl, show j * 4 + 3 - j * 4 = 3 by omega, List.set_cons_succ, List.set_cons_succ, List.set_cons_succ, List.set_cons_zero, List.append_assoc]
  rfl

set_option maxRecDepth 100000 in
set_option maxHeartbeats 1000000 in
theorem markw_any (v : Value) (l : List Wd) (B : Nat) (w : World) (h : OwnW w B v l) (hx : l.length ≤ 1048576) :
    Calls Try.prog 17 #[v, .int .i64 1] w fun e w' => e = .returned (.int .i64 (1 + 4 * (l.length : Int))) ∧ w.grownBy w' v.ownBlock ∧ OwnW w' B v (wmarks l.length) := by
  by_cases h0 : l = []
  · subst h0
    obtain ⟨a, c, rfl⟩ := ownsRow_shape h
    have H := Lib.hid h
    clear h
    go_enter Try.func17, Try.ntmps17
    go_wp2_with fail
    refine wp_loop_rounds 1 ?_
    rw [rounds_succ]
    go_wp2_with fail
    go_ret
    exact ⟨ret_int (by simp), World.grownBy.refl _ _, by simpa [wmarks] using H.out⟩
  · obtain ⟨g, c, rfl, hgB⟩ : ∃ g c, v = .slice (some ⟨g, 0, none⟩) l.length c ∧ B ≤ g := by
      obtain ⟨_, h' | ⟨g, c, cur, h', hb, _⟩⟩ := id h
      · exact absurd (List.length_eq_zero_iff.1 h'.2) h0
      · exact ⟨g, c, h', hb⟩
    have H := Lib.hid h
    clear h h0
    go_enter Try.func17, Try.ntmps17
    go_wp2_with fail
    go_loopw [1, 5] (fun kv iv wr => ∃ j : Nat, j ≤ l.length ∧ kv = .int .i64 (1 + 4 * (j : Int)) ∧ iv = .int .i64 j ∧ Hid (w.grownBy wr (some g)) ∧ Hid (OwnW wr B (.slice (some ⟨g, 0, none⟩) l.length c) (wmk j l))) (fun _ iv _ => l.length - (intOf iv).toNat)
    case atStart => exact ⟨0, Nat.zero_le _, by simp, rfl, World.grownBy.refl _ _, by show OwnW _ _ _ _; rw [wmk_zero]; exact H.out⟩
    case round =>
      obtain ⟨j, hj, rfl, rfl, HG, HO⟩ := hrel
      by_cases hlt : j < l.length
      · have hlt' : (j : Int) < (l.length : Int) := by omega
        have ho3 := HO.out
        unfold OwnW at ho3
        rw [wmk_len j l hj] at ho3
        have hf0 := ho3.frozenAt (j * 4)
        have hf1 := ho3.frozenAt (j * 4 + 1)
        have hf2 := ho3.frozenAt (j * 4 + 2)
        have hf3 := ho3.frozenAt (j * 4 + 3)
        have hc0 := ho3.cellAt (j * 4) (by omega)
        have hc1 := ho3.cellAt (j * 4 + 1) (by omega)
        have hc2 := ho3.cellAt (j * 4 + 2) (by omega)
        have hc3 := ho3.cellAt (j * 4 + 3) (by omega)
        have hjl : j < (wmk j l).length := by rw [wmk_len j l hj]; exact hlt
        have r1 := wcells_at (wmk j l) j 0 hjl (by omega)
        have r2 := wcells_at (wmk j l) j 1 hjl (by omega)
        have r3 := wcells_at (wmk j l) j 2 hjl (by omega)
        have r4 := wcells_at (wmk j l) j 3 hjl (by omega)
        simp only [Nat.add_zero] at r1
        rw [r1] at hc0
        rw [r2] at hc1
        rw [r3] at hc2
        rw [r4] at hc3
        simp only [wcell, List.getElem?_cons_zero, List.getElem?_cons_succ] at hc0 hc1 hc2 hc3
        generalize ((wmk j l)[j]).1 = u1 at hc0
        generalize ((wmk j l)[j]).2.1 = u2 at hc1
        generalize ((wmk j l)[j]).2.2.1 = u3 at hc2
        generalize ((wmk j l)[j]).2.2.2 = u4 at hc3
        obtain ⟨st, sg⟩ := ho3.stored (j * 4) (.int .i64 (1 + 4 * (j : Int)))
        obtain ⟨st2, sg2⟩ := st.stored (j * 4 + 1) (.int .i64 (1 + 4 * (j : Int) + 1))
        obtain ⟨st3, sg3⟩ := st2.stored (j * 4 + 2) (.int .i64 (1 + 4 * (j : Int) + 2))
        obtain ⟨st4, sg4⟩ := st3.stored (j * 4 + 3) (.int .i64 (1 + 4 * (j : Int) + 3))
        rw [wmk_step j l hlt] at st4
        have ST := Lib.hid st4
        have SG := Lib.hid ((((HG.out.trans sg).trans sg2).trans sg3).trans sg4)
        clear st st2 st3 st4 sg sg2 sg3 sg4 ho3 r1 r2 r3 r4 hjl
        go_wp2_with fail
        go_roundw
        case rel => exact ⟨j + 1, by omega, (by first | go_num | (congr 1; omega)), by go_num, SG.out, by show OwnW _ _ _ _; unfold OwnW; rw [wmk_len (j + 1) l (by omega)]; exact ST.out⟩
        case measure => simp [intOf]; omega
      · have he : j = l.length := by omega
        have HE := Lib.hid he
        have HO2 := Lib.hid (show OwnW wr B (.slice (some ⟨g, 0, none⟩) l.length c) (wmarks l.length) by have := HO.out; rw [he, wmk_all] at this; exact this)
        clear he
        go_wp2_with fail
        go_ret
        exact ⟨ret_int (by rw [HE.out]), HG.out, HO2.out⟩

set_option maxRecDepth 100000 in
set_option maxHeartbeats 1000000 in
theorem heldw_any (v : Value) (n : Nat) (w : World) (h : Wds w v (wmarks n)) (hx : n ≤ 1048576) :
    Calls Try.prog 18 #[v, .int .i64 1] w fun e w' => e = .returned (.int .i64 (1 + 4 * (n : Int))) ∧ w = w' := by
  obtain ⟨a, c, rfl, _, h⟩ := h
  rw [wmarks_len]
  have HC := Lib.hid h
  clear h
  go_enter Try.func18, Try.ntmps18
  go_wp2_with fail
  go_loopw [1, 5] (fun kv iv wr => ∃ j : Nat, j ≤ n ∧ kv = .int .i64 (1 + 4 * (j : Int)) ∧ iv = .int .i64 j ∧ w = wr) (fun _ iv _ => n - (intOf iv).toNat)
  case atStart => exact ⟨0, Nat.zero_le _, by simp, rfl, rfl⟩
  case round =>
    obtain ⟨j, hj, rfl, rfl, rfl⟩ := hrel
    by_cases hlt : j < n
    · have hlt' : (j : Int) < (n : Int) := by omega
      obtain ⟨g, o, rfl, hc⟩ := HC.out (by intro e; have := wmarks_len n; rw [e] at this; simp at this; omega)
      obtain ⟨e1, e2, e3, e4⟩ := hc j (by rw [wmarks_len]; exact hlt)
      rw [wmarks_at n j hlt] at e1 e2 e3 e4
      have n1 : ((1 + 4 * (j : Int)) != (1 + 4 * (j : Int))) = false := by simp
      have n2 : ((1 + 4 * (j : Int) + 1) != (1 + 4 * (j : Int) + 1)) = false := by simp
      have n3 : ((1 + 4 * (j : Int) + 2) != (1 + 4 * (j : Int) + 2)) = false := by simp
      have n4 : ((1 + 4 * (j : Int) + 3) != (1 + 4 * (j : Int) + 3)) = false := by simp
      clear hc
      go_wp2_with fail
      go_roundw
      case rel => exact ⟨j + 1, by omega, (by first | go_num | (congr 1; omega)), by go_num, (by first | rfl | trivial)⟩
      case measure => simp [intOf]; omega
    · have he : j = n := by omega
      have HE := Lib.hid he
      clear he
      go_wp2_with fail
      go_ret
      exact ⟨ret_int (by rw [HE.out]), rfl⟩

end Go.Proofs.Ytfggldholaibeaa
