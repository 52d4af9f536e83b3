/- markTicketS and heldTicketS. -/
import Derived.Test.YtlhjhdlpejpooabAppTc
namespace Go.Proofs.Ytlhjhdlpejpooab
open Go.RowKit
set_option linter.unusedVariables false
set_option linter.unusedSimpArgs false

/-- (1, 2), (3, 4), .. -/
def rmarks (n : Nat) : List (Int × Int) := (List.range n).map (fun (i : Nat) => (1 + 2 * (i : Int), 1 + 2 * (i : Int) + 1))
theorem rmarks_len (n : Nat) : (rmarks n).length = n := by simp [rmarks]
theorem rmarks_at (n i : Nat) (h : i < n) : (rmarks n).getD i (0, 0) = (1 + 2 * (i : Int), 1 + 2 * (i : Int) + 1) := by
  simp [rmarks, List.getD_eq_getElem?_getD, List.getElem?_map, List.getElem?_range h]
def rmk (j : Nat) (l : List (Int × Int)) : List (Int × Int) := rmarks j ++ l.drop j
theorem rmk_len (j : Nat) (l : List (Int × Int)) (h : j ≤ l.length) : (rmk j l).length = l.length := by simp [rmk, rmarks_len]; omega
theorem rmk_zero (l : List (Int × Int)) : rmk 0 l = l := by simp [rmk, rmarks]
theorem rmk_all (l : List (Int × Int)) : rmk l.length l = rmarks l.length := by simp [rmk]
theorem tcells_app3 (l m : List (Int × Int)) : tcells (l ++ m) = tcells l ++ tcells m := by simp [tcells]
theorem rmk_step (j : Nat) (l : List (Int × Int)) (h : j < l.length) : ((tcells (rmk j l)).set (j * 2) (.int .i64 (1 + 2 * (j : Int)))).set (j * 2 + 1) (.int .i64 (1 + 2 * (j : Int) + 1)) = tcells (rmk (j + 1) l) := by
  have e : rmarks (j + 1) = rmarks j ++ [(1 + 2 * (j : Int), 1 + 2 * (j : Int) + 1)] := by simp [rmarks, List.range_succ]
  have d : l.drop j = l[j] :: l.drop (j + 1) := List.drop_eq_getElem_cons h
  have hl : (tcells (rmarks j)).length = j * 2 := by rw [tcells_len, rmarks_len]
  unfold rmk
  rw [e, d, tcells_app3, tcells_app3, tcells_app3]
  have e1 : tcells (l[j] :: l.drop (j + 1)) = .int .i64 l[j].1 :: .int .i64 l[j].2 :: tcells (l.drop (j + 1)) := rfl
  have e2 : tcells [((1 + 2 * (j : Int), 1 + 2 * (j : Int) + 1) : Int × Int)] = [.int .i64 (1 + 2 * (j : Int)), .int .i64 (1 + 2 * (j : Int) + 1)] := by simp [tcells]
  rw [e1, e2, List.set_append_right _ _ (by omega), hl, Nat.sub_self, List.set_cons_zero, List.set_append_right _ _ (by omega), hl, show j * 2 + 1 - j * 2 = 1 by omega, List.set_cons_succ, List.set_cons_zero, List.append_assoc]
  rfl

set_option maxRecDepth 100000 in
set_option maxHeartbeats 1000000 in
theorem markr_any (v : Value) (l : List (Int × Int)) (B : Nat) (w : World) (h : OwnTc w B v l) (hx : l.length ≤ 1048576) :
    Calls Try.prog 48 #[v, .int .i64 1] w fun e w' => e = .returned (.int .i64 (1 + 2 * (l.length : Int))) ∧ w.grownBy w' v.ownBlock ∧ OwnTc w' B v (rmarks l.length) := by
  by_cases h0 : l = []
  · subst h0
    obtain ⟨a, c, rfl⟩ := ownsRow_shape h
    have H := Lib.hid h
    clear h
    go_enter Try.func48, Try.ntmps48
    go_wp2_with fail
    refine wp_loop_rounds 1 ?_
    rw [rounds_succ]
    go_wp2_with fail
    go_ret
    exact ⟨ret_int (by simp), World.grownBy.refl _ _, by simpa [rmarks] using H.out⟩
  · obtain ⟨g, c, rfl, hgB⟩ : ∃ g c, v = .slice (some ⟨g, 0, none⟩) l.length c ∧ B ≤ g := by
      obtain ⟨_, h' | ⟨g, c, cur, h', hb, _⟩⟩ := id h
      · exact absurd (List.length_eq_zero_iff.1 h'.2) h0
      · exact ⟨g, c, h', hb⟩
    have H := Lib.hid h
    clear h h0
    go_enter Try.func48, Try.ntmps48
    go_wp2_with fail
    go_loopw [1, 5] (fun kv iv wr => ∃ j : Nat, j ≤ l.length ∧ kv = .int .i64 (1 + 2 * (j : Int)) ∧ iv = .int .i64 j ∧ Hid (w.grownBy wr (some g)) ∧ Hid (OwnTc wr B (.slice (some ⟨g, 0, none⟩) l.length c) (rmk j l))) (fun _ iv _ => l.length - (intOf iv).toNat)
    case atStart => exact ⟨0, Nat.zero_le _, by simp, rfl, World.grownBy.refl _ _, by show OwnTc _ _ _ _; rw [rmk_zero]; exact H.out⟩
    case round =>
      obtain ⟨j, hj, rfl, rfl, HG, HO⟩ := hrel
      by_cases hlt : j < l.length
      · have hlt' : (j : Int) < (l.length : Int) := by omega
        have ho3 := HO.out
        unfold OwnTc at ho3
        rw [rmk_len j l hj] at ho3
        have hf0 := ho3.frozenAt (j * 2)
        have hf1 := ho3.frozenAt (j * 2 + 1)
        have hc0 := ho3.cellAt (j * 2) (by omega)
        have hc1 := ho3.cellAt (j * 2 + 1) (by omega)
        obtain ⟨r1, r2⟩ := tcells_at (rmk j l) j (by rw [rmk_len j l hj]; exact hlt)
        rw [r1] at hc0
        rw [r2] at hc1
        generalize ((rmk j l).getD j (0, 0)).1 = u1 at hc0
        generalize ((rmk j l).getD j (0, 0)).2 = u2 at hc1
        obtain ⟨st, sg⟩ := ho3.stored (j * 2) (.int .i64 (1 + 2 * (j : Int)))
        obtain ⟨st2, sg2⟩ := st.stored (j * 2 + 1) (.int .i64 (1 + 2 * (j : Int) + 1))
        rw [rmk_step j l hlt] at st2
        have ST := Lib.hid st2
        have SG := Lib.hid ((HG.out.trans sg).trans sg2)
        clear st st2 sg sg2 ho3 r1 r2
        go_wp2_with fail
        go_roundw
        case rel => exact ⟨j + 1, by omega, (by first | go_num | (congr 1; omega)), by go_num, SG.out, by show OwnTc _ _ _ _; unfold OwnTc; rw [rmk_len (j + 1) l (by omega)]; exact ST.out⟩
        case measure => simp [intOf]; omega
      · have he : j = l.length := by omega
        have HE := Lib.hid he
        have HO2 := Lib.hid (show OwnTc wr B (.slice (some ⟨g, 0, none⟩) l.length c) (rmarks l.length) by have := HO.out; rw [he, rmk_all] at this; exact this)
        clear he
        go_wp2_with fail
        go_ret
        exact ⟨ret_int (by rw [HE.out]), HG.out, HO2.out⟩

set_option maxRecDepth 100000 in
set_option maxHeartbeats 1000000 in
theorem heldr_any (v : Value) (n : Nat) (w : World) (h : Tics w v (rmarks n)) (hx : n ≤ 1048576) :
    Calls Try.prog 49 #[v, .int .i64 1] w fun e w' => e = .returned (.int .i64 (1 + 2 * (n : Int))) ∧ w = w' := by
  obtain ⟨a, c, rfl, h⟩ := h
  rw [rmarks_len]
  have HC := Lib.hid h
  clear h
  go_enter Try.func49, Try.ntmps49
  go_wp2_with fail
  go_loopw [1, 5] (fun kv iv wr => ∃ j : Nat, j ≤ n ∧ kv = .int .i64 (1 + 2 * (j : Int)) ∧ iv = .int .i64 j ∧ w = wr) (fun _ iv _ => n - (intOf iv).toNat)
  case atStart => exact ⟨0, Nat.zero_le _, by simp, rfl, rfl⟩
  case round =>
    obtain ⟨j, hj, rfl, rfl, rfl⟩ := hrel
    by_cases hlt : j < n
    · have hlt' : (j : Int) < (n : Int) := by omega
      obtain ⟨g, o, rfl, hc⟩ := HC.out (by intro e; have := rmarks_len n; rw [e] at this; simp at this; omega)
      obtain ⟨e1, e2⟩ := hc j (by rw [rmarks_len]; exact hlt)
      rw [rmarks_at n j hlt] at e1 e2
      have n1 : ((1 + 2 * (j : Int)) != (1 + 2 * (j : Int))) = false := by simp
      have n2 : ((1 + 2 * (j : Int) + 1) != (1 + 2 * (j : Int) + 1)) = false := by simp
      clear hc
      go_wp2_with fail
      go_roundw
      case rel => exact ⟨j + 1, by omega, (by first | go_num | (congr 1; omega)), by go_num, (by first | rfl | trivial)⟩
      case measure => simp [intOf]; omega
    · have he : j = n := by omega
      have HE := Lib.hid he
      clear he
      go_wp2_with fail
      go_ret
      exact ⟨ret_int (by rw [HE.out]), rfl⟩

end Go.Proofs.Ytlhjhdlpejpooab
