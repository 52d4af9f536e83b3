/- markRangeS from any number on. -/
import Derived.Test.YtccolpaenmebeaaToRg0
import Derived.IntWalk
namespace Go.Proofs.Ytccolpaenmebeaa
open Go.RowKit
set_option linter.unusedVariables false
set_option linter.unusedSimpArgs false

def rmF (s : Int) (n : Nat) : List (Int × Int) := (List.range n).map (fun (i : Nat) => (s + 2 * (i : Int), s + 2 * (i : Int) + 1))
theorem rmF_len (s : Int) (n : Nat) : (rmF s n).length = n := by simp [rmF]
def rmkF (s : Int) (j : Nat) (l : List (Int × Int)) : List (Int × Int) := rmF s j ++ l.drop j
theorem rmkF_len (s : Int) (j : Nat) (l : List (Int × Int)) (h : j ≤ l.length) : (rmkF s j l).length = l.length := by simp [rmkF, rmF_len]; omega
theorem rmkF_zero (s : Int) (l : List (Int × Int)) : rmkF s 0 l = l := by simp [rmkF, rmF]
theorem rcells_app4 (l m : List (Int × Int)) : rcells (l ++ m) = rcells l ++ rcells m := by simp [rcells]
theorem rmkF_step (s : Int) (j : Nat) (l : List (Int × Int)) (h : j < l.length) : ((rcells (rmkF s j l)).set (j * 2) (.int .i64 (s + 2 * (j : Int)))).set (j * 2 + 1) (.int .i64 (s + 2 * (j : Int) + 1)) = rcells (rmkF s (j + 1) l) := by
  have e : rmF s (j + 1) = rmF s j ++ [(s + 2 * (j : Int), s + 2 * (j : Int) + 1)] := by simp [rmF, List.range_succ]
  have d : l.drop j = l[j] :: l.drop (j + 1) := List.drop_eq_getElem_cons h
  have hl : (rcells (rmF s j)).length = j * 2 := by rw [rcells_len, rmF_len]
  unfold rmkF
  rw [e, d, rcells_app4, rcells_app4, rcells_app4]
  have e1 : rcells (l[j] :: l.drop (j + 1)) = .int .i64 l[j].1 :: .int .i64 l[j].2 :: rcells (l.drop (j + 1)) := rfl
  have e2 : rcells [((s + 2 * (j : Int), s + 2 * (j : Int) + 1) : Int × Int)] = [.int .i64 (s + 2 * (j : Int)), .int .i64 (s + 2 * (j : Int) + 1)] := by simp [rcells]
  rw [e1, e2, List.set_append_right _ _ (by omega), hl, Nat.sub_self, List.set_cons_zero, List.set_append_right _ _ (by omega), hl, show j * 2 + 1 - j * 2 = 1 by omega, List.set_cons_succ, List.set_cons_zero, List.append_assoc]
  rfl

set_option maxRecDepth 100000 in
set_option maxHeartbeats 1000000 in
theorem markf_any (v : Value) (l : List (Int × Int)) (s : Int) (B : Nat) (w : World) (h : OwnRg w B v l) (hx : l.length ≤ 1048576) (hs0 : 0 ≤ s) (hs1 : s ≤ 1000000000) :
    Calls Try.prog 26 #[v, .int .i64 s] w fun e w' => e = .returned (.int .i64 (s + 2 * (l.length : Int))) ∧ w.grownBy w' v.ownBlock := by
  by_cases h0 : l = []
  · subst h0
    obtain ⟨a, c, rfl⟩ := ownsRow_shape h
    clear h
    go_enter Try.func26, Try.ntmps26
    go_wp2_with fail
    refine wp_loop_rounds 1 ?_
    rw [rounds_succ]
    go_wp2_with fail
    go_ret
    exact ⟨ret_int (by simp), World.grownBy.refl _ _⟩
  · obtain ⟨g, c, rfl, hgB⟩ : ∃ g c, v = .slice (some ⟨g, 0, none⟩) l.length c ∧ B ≤ g := by
      obtain ⟨_, h' | ⟨g, c, cur, h', hb, _⟩⟩ := id h
      · exact absurd (List.length_eq_zero_iff.1 h'.2) h0
      · exact ⟨g, c, h', hb⟩
    have H := Lib.hid h
    clear h h0
    go_enter Try.func26, Try.ntmps26
    go_wp2_with fail
    go_loopw [1, 5] (fun kv iv wr => ∃ j : Nat, j ≤ l.length ∧ kv = .int .i64 (s + 2 * (j : Int)) ∧ iv = .int .i64 j ∧ Hid (w.grownBy wr (some g)) ∧ Hid (OwnRg wr B (.slice (some ⟨g, 0, none⟩) l.length c) (rmkF s j l))) (fun _ iv _ => l.length - (intOf iv).toNat)
    case atStart => exact ⟨0, Nat.zero_le _, by simp, rfl, World.grownBy.refl _ _, by show OwnRg _ _ _ _; rw [rmkF_zero]; exact H.out⟩
    case round =>
      obtain ⟨j, hj, rfl, rfl, HG, HO⟩ := hrel
      by_cases hlt : j < l.length
      · have hlt' : (j : Int) < (l.length : Int) := by omega
        have ho3 := HO.out
        unfold OwnRg at ho3
        rw [rmkF_len s j l hj] at ho3
        have hf0 := ho3.frozenAt (j * 2)
        have hf1 := ho3.frozenAt (j * 2 + 1)
        have hc0 := ho3.cellAt (j * 2) (by omega)
        have hc1 := ho3.cellAt (j * 2 + 1) (by omega)
        obtain ⟨r1, r2⟩ := rcells_at (rmkF s j l) j (by rw [rmkF_len s j l hj]; exact hlt)
        rw [r1] at hc0
        rw [r2] at hc1
        generalize ((rmkF s j l).getD j (0, 0)).1 = u1 at hc0
        generalize ((rmkF s j l).getD j (0, 0)).2 = u2 at hc1
        obtain ⟨st, sg⟩ := ho3.stored (j * 2) (.int .i64 (s + 2 * (j : Int)))
        obtain ⟨st2, sg2⟩ := st.stored (j * 2 + 1) (.int .i64 (s + 2 * (j : Int) + 1))
        rw [rmkF_step s j l hlt] at st2
        have ST := Lib.hid st2
        have SG := Lib.hid ((HG.out.trans sg).trans sg2)
        clear st st2 sg sg2 ho3 r1 r2
        go_wp2_with fail
        go_roundw
        case rel => exact ⟨j + 1, by omega, (by first | go_num | (congr 1; omega)), by go_num, SG.out, by show OwnRg _ _ _ _; unfold OwnRg; rw [rmkF_len s (j + 1) l (by omega)]; exact ST.out⟩
        case measure => simp [intOf]; omega
      · have he : j = l.length := by omega
        have HE := Lib.hid he
        clear he
        go_wp2_with fail
        go_ret
        exact ⟨ret_int (by rw [HE.out]), HG.out⟩

end Go.Proofs.Ytccolpaenmebeaa
