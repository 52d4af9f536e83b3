/- markSentPacketS and heldSentPacketS. -/
import Derived.Test.YtccolpaenmebeaaPk
namespace Go.Proofs.Ytccolpaenmebeaa
open Go.RowKit
set_option linter.unusedVariables false
set_option linter.unusedSimpArgs false

/-- (1, 2, 3), (4, 5, 6), .. -/
def pmarks (n : Nat) : List Pk := (List.range n).map (fun (i : Nat) => (1 + 3 * (i : Int), 1 + 3 * (i : Int) + 1, 1 + 3 * (i : Int) + 2))
theorem pmarks_len (n : Nat) : (pmarks n).length = n := by simp [pmarks]
theorem pmarks_at (n i : Nat) (h : i < n) : (pmarks n).getD i pkD = (1 + 3 * (i : Int), 1 + 3 * (i : Int) + 1, 1 + 3 * (i : Int) + 2) := by
  simp [pmarks, List.getD_eq_getElem?_getD, List.getElem?_map, List.getElem?_range h]
def pmk (j : Nat) (l : List Pk) : List Pk := pmarks j ++ l.drop j
theorem pmk_len (j : Nat) (l : List Pk) (h : j ≤ l.length) : (pmk j l).length = l.length := by simp [pmk, pmarks_len]; omega
theorem pmk_zero (l : List Pk) : pmk 0 l = l := by simp [pmk, pmarks]
theorem pmk_all (l : List Pk) : pmk l.length l = pmarks l.length := by simp [pmk]
theorem pmk_step (j : Nat) (l : List Pk) (h : j < l.length) : (((pcells (pmk j l)).set (j * 3) (.int .i64 (1 + 3 * (j : Int)))).set (j * 3 + 1) (.int .i64 (1 + 3 * (j : Int) + 1))).set (j * 3 + 2) (.int .i64 (1 + 3 * (j : Int) + 2)) = pcells (pmk (j + 1) l) := by
  have e : pmarks (j + 1) = pmarks j ++ [(1 + 3 * (j : Int), 1 + 3 * (j : Int) + 1, 1 + 3 * (j : Int) + 2)] := by simp [pmarks, List.range_succ]
  have d : l.drop j = l[j] :: l.drop (j + 1) := List.drop_eq_getElem_cons h
  have hl : (pcells (pmarks j)).length = j * 3 := by rw [pcells_len, pmarks_len]
  unfold pmk
  rw [e, d, pcells_app, pcells_app, pcells_app]
  have e1 : pcells (l[j] :: l.drop (j + 1)) = .int .i64 l[j].1 :: .int .i64 l[j].2.1 :: .int .i64 l[j].2.2 :: pcells (l.drop (j + 1)) := rfl
  have e2 : pcells [((1 + 3 * (j : Int), 1 + 3 * (j : Int) + 1, 1 + 3 * (j : Int) + 2) : Pk)] = [.int .i64 (1 + 3 * (j : Int)), .int .i64 (1 + 3 * (j : Int) + 1), .int .i64 (1 + 3 * (j : Int) + 2)] := by simp [pcells, pcell]
  rw [e1, e2, List.set_append_right _ _ (by omega), hl, Nat.sub_self, List.set_cons_zero, List.set_append_right _ _ (by omega), hl, show j * 3 + 1 - j * 3 = 1 by omega, List.set_cons_succ, List.set_cons_zero, List.set_append_right _ _ (by omega), hl, show j * 3 + 2 - j * 3 = 2 by omega, List.set_cons_succ, List.set_cons_succ, List.set_cons_zero, List.append_assoc]
  rfl

set_option maxRecDepth 100000 in
set_option maxHeartbeats 1000000 in
theorem markpk_any (v : Value) (l : List Pk) (B : Nat) (w : World) (h : OwnPk w B v l) (hx : l.length ≤ 1048576) :
    Calls Try.prog 34 #[v, .int .i64 1] w fun e w' => e = .returned (.int .i64 (1 + 3 * (l.length : Int))) ∧ w.grownBy w' v.ownBlock ∧ OwnPk w' B v (pmarks l.length) := by
  by_cases h0 : l = []
  · subst h0
    obtain ⟨a, c, rfl⟩ := ownsRow_shape h
    have H := Lib.hid h
    clear h
    go_enter Try.func34, Try.ntmps34
    go_wp2_with fail
    refine wp_loop_rounds 1 ?_
    rw [rounds_succ]
    go_wp2_with fail
    go_ret
    exact ⟨ret_int (by simp), World.grownBy.refl _ _, by simpa [pmarks] using H.out⟩
  · obtain ⟨g, c, rfl, hgB⟩ : ∃ g c, v = .slice (some ⟨g, 0, none⟩) l.length c ∧ B ≤ g := by
      obtain ⟨_, h' | ⟨g, c, cur, h', hb, _⟩⟩ := id h
      · exact absurd (List.length_eq_zero_iff.1 h'.2) h0
      · exact ⟨g, c, h', hb⟩
    have H := Lib.hid h
    clear h h0
    go_enter Try.func34, Try.ntmps34
    go_wp2_with fail
    go_loopw [1, 5] (fun kv iv wr => ∃ j : Nat, j ≤ l.length ∧ kv = .int .i64 (1 + 3 * (j : Int)) ∧ iv = .int .i64 j ∧ Hid (w.grownBy wr (some g)) ∧ Hid (OwnPk wr B (.slice (some ⟨g, 0, none⟩) l.length c) (pmk j l))) (fun _ iv _ => l.length - (intOf iv).toNat)
    case atStart => exact ⟨0, Nat.zero_le _, by simp, rfl, World.grownBy.refl _ _, by show OwnPk _ _ _ _; rw [pmk_zero]; exact H.out⟩
    case round =>
      obtain ⟨j, hj, rfl, rfl, HG, HO⟩ := hrel
      by_cases hlt : j < l.length
      · have hlt' : (j : Int) < (l.length : Int) := by omega
        have ho3 := HO.out
        unfold OwnPk at ho3
        rw [pmk_len j l hj] at ho3
        have hf0 := ho3.frozenAt (j * 3)
        have hf1 := ho3.frozenAt (j * 3 + 1)
        have hf2 := ho3.frozenAt (j * 3 + 2)
        have hc0 := ho3.cellAt (j * 3) (by omega)
        have hc1 := ho3.cellAt (j * 3 + 1) (by omega)
        have hc2 := ho3.cellAt (j * 3 + 2) (by omega)
        have hjl : j < (pmk j l).length := by rw [pmk_len j l hj]; exact hlt
        have r1 := pcells_at (pmk j l) j 0 hjl (by omega)
        have r2 := pcells_at (pmk j l) j 1 hjl (by omega)
        have r3 := pcells_at (pmk j l) j 2 hjl (by omega)
        simp only [Nat.add_zero] at r1
        rw [r1] at hc0
        rw [r2] at hc1
        rw [r3] at hc2
        simp only [pcell, List.getElem?_cons_zero, List.getElem?_cons_succ] at hc0 hc1 hc2
        generalize ((pmk j l)[j]).1 = u1 at hc0
        generalize ((pmk j l)[j]).2.1 = u2 at hc1
        generalize ((pmk j l)[j]).2.2 = u3 at hc2
        obtain ⟨st, sg⟩ := ho3.stored (j * 3) (.int .i64 (1 + 3 * (j : Int)))
        obtain ⟨st2, sg2⟩ := st.stored (j * 3 + 1) (.int .i64 (1 + 3 * (j : Int) + 1))
        obtain ⟨st3, sg3⟩ := st2.stored (j * 3 + 2) (.int .i64 (1 + 3 * (j : Int) + 2))
        rw [pmk_step j l hlt] at st3
        have ST := Lib.hid st3
        have SG := Lib.hid (((HG.out.trans sg).trans sg2).trans sg3)
        clear st st2 st3 sg sg2 sg3 ho3 r1 r2 r3 hjl
        go_wp2_with fail
        go_roundw
        case rel => exact ⟨j + 1, by omega, (by first | go_num | (congr 1; omega)), by go_num, SG.out, by show OwnPk _ _ _ _; unfold OwnPk; rw [pmk_len (j + 1) l (by omega)]; exact ST.out⟩
        case measure => simp [intOf]; omega
      · have he : j = l.length := by omega
        have HE := Lib.hid he
        have HO2 := Lib.hid (show OwnPk wr B (.slice (some ⟨g, 0, none⟩) l.length c) (pmarks l.length) by have := HO.out; rw [he, pmk_all] at this; exact this)
        clear he
        go_wp2_with fail
        go_ret
        exact ⟨ret_int (by rw [HE.out]), HG.out, HO2.out⟩

set_option maxRecDepth 100000 in
set_option maxHeartbeats 1000000 in
theorem heldpk_any (v : Value) (n : Nat) (w : World) (h : Pks w v (pmarks n)) (hx : n ≤ 1048576) :
    Calls Try.prog 35 #[v, .int .i64 1] w fun e w' => e = .returned (.int .i64 (1 + 3 * (n : Int))) ∧ w = w' := by
  obtain ⟨a, c, rfl, _, h⟩ := h
  rw [pmarks_len]
  have HC := Lib.hid h
  clear h
  go_enter Try.func35, Try.ntmps35
  go_wp2_with fail
  go_loopw [1, 5] (fun kv iv wr => ∃ j : Nat, j ≤ n ∧ kv = .int .i64 (1 + 3 * (j : Int)) ∧ iv = .int .i64 j ∧ w = wr) (fun _ iv _ => n - (intOf iv).toNat)
  case atStart => exact ⟨0, Nat.zero_le _, by simp, rfl, rfl⟩
  case round =>
    obtain ⟨j, hj, rfl, rfl, rfl⟩ := hrel
    by_cases hlt : j < n
    · have hlt' : (j : Int) < (n : Int) := by omega
      obtain ⟨g, o, rfl, hc⟩ := HC.out (by intro e; have := pmarks_len n; rw [e] at this; simp at this; omega)
      obtain ⟨e1, e2, e3⟩ := hc j (by rw [pmarks_len]; exact hlt)
      rw [pmarks_at n j hlt] at e1 e2 e3
      have n1 : ((1 + 3 * (j : Int)) != (1 + 3 * (j : Int))) = false := by simp
      have n2 : ((1 + 3 * (j : Int) + 1) != (1 + 3 * (j : Int) + 1)) = false := by simp
      have n3 : ((1 + 3 * (j : Int) + 2) != (1 + 3 * (j : Int) + 2)) = false := by simp
      clear hc
      go_wp2_with fail
      go_roundw
      case rel => exact ⟨j + 1, by omega, (by first | go_num | (congr 1; omega)), by go_num, (by first | rfl | trivial)⟩
      case measure => simp [intOf]; omega
    · have he : j = n := by omega
      have HE := Lib.hid he
      clear he
      go_wp2_with fail
      go_ret
      exact ⟨ret_int (by rw [HE.out]), rfl⟩

end Go.Proofs.Ytccolpaenmebeaa
