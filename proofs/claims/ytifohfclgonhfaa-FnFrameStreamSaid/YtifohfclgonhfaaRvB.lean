/- Chapter 31, the model: l31Pieces. -/
import Derived.Test.YtifohfclgonhfaaRvA
import Derived.Test.YtifohfclgonhfaaSVar
import Derived.Test.YtifohfclgonhfaaLit
import Derived.Deep.RegionHeld3
namespace Go.Proofs.Ytifohfclgonhfaa
open Go.RowKit
set_option linter.unusedVariables false
set_option linter.unusedSimpArgs false

/-- Pieces in new memory, each in lo .. 30. -/
def PcPost (w : World) (lo : Int) (e : Ending) (w' : World) : Prop := ∃ v l, e = .returned v ∧ Below w.heap.size w w' ∧ OwnPc w' w.heap.size v l ∧ POk lo l ∧ l.length ≤ 30 ∧ v ≠ .slice none 0 0

/-- The last piece ends at z. -/
def Ends (l : List Pc) (z : Int) : Prop := ∃ l0 x d, l = l0 ++ [(x, d)] ∧ x + (d.size : Int) = z

set_option maxRecDepth 100000 in
set_option maxHeartbeats 1000000 in
theorem spieces_any (g B : Nat) (fr : Nat) (w : World) (h : Row30 w B (.slice (some ⟨g, 0, none⟩) 30 30)) (h1 : fr ≤ 1000) :
    Calls Try.prog 91 #[.slice (some ⟨g, 0, none⟩) 30 30, .int .i64 fr] w (PcPost w fr) := by
  obtain ⟨i0, hi, hz0, hz1, hz2⟩ := info_parts try_infoPiece
  have HI := Lib.hid hi
  obtain ⟨xs, hx, hrow⟩ := h
  have hgl := (hrow.lt g rfl).2
  have HX : Hid (∀ j, j < 30 → w.cell? ⟨g, j, none⟩ = some (.int .i64 (xs.getD j 0))) := Lib.hid (fun j hj => by
    have := hrow.cellAt j (by omega)
    rw [this, List.getElem?_map, List.getD_eq_getElem?_getD, List.getElem?_eq_getElem (by omega)]; rfl)
  clear hi hrow
  have BB : Hid (Below w.heap.size w (w.alloc (.cells #[] 128))) := Lib.hid ((Below.refl _ _).alloc (Nat.le_refl _) _)
  have OO := Lib.hid (own_new 128 2 w.heap.size w (Nat.le_refl _))
  go_enter Try.func91, Try.ntmps91
  go_wp2_with fail
  go_loopw [5, 6] (fun ov iv wr => ∃ (j : Nat) (l : List Pc), fr ≤ j ∧ iv = .int .i64 j ∧ Hid (Below w.heap.size w wr) ∧ Hid (OwnPc wr w.heap.size ov l) ∧ Hid (POk fr l) ∧ l.length ≤ j - fr ∧ (j ≤ 30 ∨ j = fr) ∧ Hid (ov ≠ .slice none 0 0) ∧ Hid (fr < j → 0 ≤ xs.getD (j - 1) 0 → Ends l j)) (fun _ iv _ => 30 - (intOf iv).toNat)
  case atStart => exact ⟨fr, [], Nat.le_refl _, rfl, BB, OO, (fun p hp => by simp at hp), by simp, .inr rfl, (by simp [Hid]), (fun h => absurd h (by omega))⟩
  case round =>
    obtain ⟨j, l, hj, rfl, HB, HO, HP, hll, hj3, HV, HE⟩ := hrel
    obtain ⟨gg, cc, rfl, hcc, hg1, hg2⟩ := HO.out.sl HV.out
    by_cases hlt : j < 30
    · have hlt' : (j : Int) < 30 := by omega
      have e1 := HX.out j hlt
      have e1 := (HB.out.cell (p := ⟨g, j, none⟩) hgl).trans e1
      by_cases hneg : xs.getD j 0 < 0
      · have HN := Lib.hid hneg
        generalize xs.getD j 0 = y at e1 hneg
        go_wp2_with fail
        go_roundw
        case rel => exact ⟨j + 1, l, by omega, by go_num, HB, HO, HP, by omega, .inl (by omega), HV, Lib.hid (fun _ h => absurd h (by rw [Nat.add_sub_cancel]; have := HN.out; omega))⟩
        case measure => simp [intOf]; omega
      · have HN := Lib.hid hneg
        generalize xs.getD j 0 = y at e1 hneg
        have cv := conv1 wr wr.heap.size (y % 256) rfl
        have hsz : (strOfNums [y % 256]).size = 1 := by rw [size_nums]; rfl
        generalize strOfNums [y % 256] = s1 at cv hsz
        have HS1 := Lib.hid hsz
        have HB1 : Hid (Below w.heap.size w (wr.alloc (.cells #[.int .u8 (y % 256)] 5))) := Lib.hid (HB.out.alloc HB.out.size _)
        have HO1 : Hid (OwnPc (wr.alloc (.cells #[.int .u8 (y % 256)] 5)) w.heap.size (.slice (some ⟨gg, 0, none⟩) l.length cc) l) := Lib.hid (HO.out.below ((Below.refl _ _).alloc (Nat.le_refl _) _))
        clear hsz
        by_cases hfj : (fr : Int) < (j : Int)
        · have hfj' : fr < j := by omega
          have w1 : IntKind.i64.wrap ((j : Int) - 1) = (j : Int) - 1 := IntWalk.i64_in _ (by omega)
          have w2 : (0 : Int) ≤ (j : Int) - 1 := by omega
          have w2' : (1 : Int) ≤ (j : Int) := by omega
          have w3 : ((j : Int) - 1).toNat = j - 1 := by omega
          have w4 : (j : Int) - 1 < 30 := by omega
          have e2 := HX.out (j - 1) (by omega)
          have e2 := (HB1.out.cell (p := ⟨g, j - 1, none⟩) hgl).trans e2
          have e2' := HX.out (j - 1) (by omega)
          have e2' := (HB.out.cell (p := ⟨g, j - 1, none⟩) hgl).trans e2'
          by_cases hp : 0 ≤ xs.getD (j - 1) 0
          · obtain ⟨l0, x, d, rfl, hxd⟩ := HE.out hfj' hp
            generalize xs.getD (j - 1) 0 = y2 at e2 e2' hp
            have hlen : (l0 ++ [(x, d)]).length = l0.length + 1 := by simp
            rw [hlen] at HO HO1 hll hcc
            obtain ⟨pa, pb⟩ := HP.out (x, d) (by simp)
            simp only at pa pb
            have hd30 : d.size ≤ 30 := by omega
            have hs1 : s1.size ≤ 1 := by have := HS1.out; omega
            have v1 : IntKind.i64.wrap ((l0.length : Int)) = (l0.length : Int) := IntWalk.i64_in _ (by omega)
            have v3 : (0 : Int) ≤ (l0.length : Int) := by omega
            have v5 : (l0.length : Int) < (l0.length : Int) + 1 := by omega
            have hcat : ¬ 9223372036854775807 < d.size + s1.size := by omega
            have q2 := (pcells_at (l0 ++ [(x, d)]) l0.length (by simp)).2
            have hgd : (l0 ++ [(x, d)]).getD l0.length pc0 = (x, d) := by simp [List.getD_eq_getElem?_getD]
            rw [hgd] at q2
            have ho1 := HO1.out
            unfold OwnPc at ho1
            rw [hlen] at ho1
            have c1 := ho1.cellAt (l0.length * 2 + 1) (by omega)
            rw [q2] at c1
            have ho := HO.out
            unfold OwnPc at ho
            rw [hlen] at ho
            have c1' := ho.cellAt (l0.length * 2 + 1) (by omega)
            rw [q2] at c1'
            have z1 := ho1.frozenAt (l0.length * 2 + 1)
            have z1' := ho.frozenAt (l0.length * 2 + 1)
            have st := (ho.stored (l0.length * 2 + 1) (.string (d ++ s1))).1
            rw [pcells_set] at st
            have ST0 : OwnPc (wr.setCell ⟨gg, l0.length * 2 + 1, none⟩ (.string (d ++ s1))) w.heap.size (.slice (some ⟨gg, 0, none⟩) (l0.length + 1) cc) (l0 ++ [(x, d ++ s1)]) := by unfold OwnPc; rw [List.length_append, List.length_singleton]; exact st
            have SB0 : Below w.heap.size w (wr.setCell ⟨gg, l0.length * 2 + 1, none⟩ (.string (d ++ s1))) := HB.out.setCell (p := ⟨gg, l0.length * 2 + 1, none⟩) hg1 _
            have ST : Hid (OwnPc ((wr.setCell ⟨gg, l0.length * 2 + 1, none⟩ (.string (d ++ s1))).alloc (.cells #[.int .u8 (y % 256)] 5)) w.heap.size (.slice (some ⟨gg, 0, none⟩) (l0.length + 1) cc) (l0 ++ [(x, d ++ s1)])) := Lib.hid (ST0.below ((Below.refl _ _).alloc (Nat.le_refl _) _))
            have SB : Hid (Below w.heap.size w ((wr.setCell ⟨gg, l0.length * 2 + 1, none⟩ (.string (d ++ s1))).alloc (.cells #[.int .u8 (y % 256)] 5))) := Lib.hid (SB0.alloc SB0.size _)
            have SP : Hid (POk fr (l0 ++ [(x, d ++ s1)])) := Lib.hid (fun p hp => by
              rcases List.mem_append.1 hp with h | h
              · exact HP.out p (by simp [h])
              · rw [List.mem_singleton.1 h]
                exact ⟨pa, by rw [size_app]; have := HS1.out; push_cast; omega⟩)
            have SE : Hid (Ends (l0 ++ [(x, d ++ s1)]) ((j : Int) + 1)) := Lib.hid ⟨l0, x, d ++ s1, rfl, by rw [size_app]; have := HS1.out; push_cast; omega⟩
            clear st ho ho1 q2 hgd e2' ST0 SB0
            go_wp2_with fail
            go_roundw
            case rel => exact ⟨j + 1, _, by omega, by go_num, SB, (by rw [hlen]; exact ST), SP, by simp; omega, .inl (by omega), Lib.hid (by simp), Lib.hid (fun _ _ => SE.out)⟩
            case measure => simp [intOf]; omega
          · have hp' : ¬ (0 ≤ xs.getD (j - 1) 0) := hp
            generalize xs.getD (j - 1) 0 = y2 at e2 e2' hp'
            have hnew : ∀ k u, [Value.int .i64 (j : Int), Value.string s1][k]? = some u → ((wr.alloc (.cells #[.int .u8 (y % 256)] 5)).alloc (.cells #[.int .i64 (j : Int), .string s1] 128)).cell? ((⟨wr.heap.size + 1, 0, none⟩ : Addr).add k) = some u := by
              have nn := cell_two_new (wr.alloc (.cells #[.int .u8 (y % 256)] 5)) (.int .i64 (j : Int)) (.string s1) 128
              have hsz : (wr.alloc (.cells #[.int .u8 (y % 256)] 5)).heap.size = wr.heap.size + 1 := by simp
              rw [hsz] at nn
              exact nn
            have HO2 : OwnPc ((wr.alloc (.cells #[.int .u8 (y % 256)] 5)).alloc (.cells #[.int .i64 (j : Int), .string s1] 128)) w.heap.size (.slice (some ⟨gg, 0, none⟩) l.length cc) l := HO1.out.below ((Below.refl _ _).alloc (Nat.le_refl _) _)
            have HB2 : Below w.heap.size w ((wr.alloc (.cells #[.int .u8 (y % 256)] 5)).alloc (.cells #[.int .i64 (j : Int), .string s1] 128)) := HB1.out.alloc HB1.out.size _
            go_wp2_with (at_builtin; refine hold ?_)
            refine unhold ?_
            refine wpList_append_own_at (w := ((wr.alloc (.cells #[.int .u8 (y % 256)] 5)).alloc (.cells #[.int .i64 (j : Int), .string s1] 128))) rfl (.tmp 54) (.tmp 58) 45 rfl w.heap.size 128 i0 (.agg #[.int .i64 0, .string ⟨#[]⟩]) 2 24 Try.underlying45 HI.out hz0 hz1 hz2 rfl (by decide) (.slice (some ⟨gg, 0, none⟩) l.length cc) l.length (pcells l) rfl HO2 ⟨wr.heap.size + 1, 0, none⟩ 1 1 [.int .i64 (j : Int), .string s1] rfl rfl hnew (onep _ _) ?c1 ?c2 ?c3 ?_
            case c1 => unfold maxLen; omega
            case c2 => omega
            case c3 => exact HB2.size
            intro v3 w3 ho3 hg3 hiff3 hob3
            have O3 : Hid (OwnPc w3 w.heap.size v3 (l ++ [((j : Int), s1)])) := Lib.hid (ownpc_snoc ho3)
            have B3 : Hid (Below w.heap.size w w3) := Lib.hid (HB2.grown hg3 HB2.size (fun k hk => (World.ownsRow.lt HO2 k hk).1))
            have N3 : Hid (v3 ≠ .slice none 0 0) := Lib.hid (fun e => by have := (hiff3.1 e).2; simp at this)
            have P3 : Hid (POk fr (l ++ [((j : Int), s1)])) := Lib.hid (fun p hp => by
              rcases List.mem_append.1 hp with h | h
              · exact HP.out p h
              · rw [List.mem_singleton.1 h]
                exact ⟨by simp only; omega, by have := HS1.out; simp only; omega⟩)
            have E3 : Hid (Ends (l ++ [((j : Int), s1)]) ((j : Int) + 1)) := Lib.hid ⟨l, (j : Int), s1, rfl, by have := HS1.out; omega⟩
            have L3 : (l ++ [((j : Int), s1)]).length ≤ j + 1 - fr := by simp; omega
            generalize l ++ [((j : Int), s1)] = l3 at *
            clear ho3 hg3 hiff3 hob3 HO2 HB2 hnew
            go_wp2_with fail
            go_roundw
            case rel => exact ⟨j + 1, l3, by omega, by go_num, B3, O3, P3, L3, .inl (by omega), N3, Lib.hid (fun _ _ => E3.out)⟩
            case measure => simp [intOf]; omega
        · skip
          have hnew : ∀ k u, [Value.int .i64 (j : Int), Value.string s1][k]? = some u → ((wr.alloc (.cells #[.int .u8 (y % 256)] 5)).alloc (.cells #[.int .i64 (j : Int), .string s1] 128)).cell? ((⟨wr.heap.size + 1, 0, none⟩ : Addr).add k) = some u := by
            have nn := cell_two_new (wr.alloc (.cells #[.int .u8 (y % 256)] 5)) (.int .i64 (j : Int)) (.string s1) 128
            have hsz : (wr.alloc (.cells #[.int .u8 (y % 256)] 5)).heap.size = wr.heap.size + 1 := by simp
            rw [hsz] at nn
            exact nn
          have HO2 : OwnPc ((wr.alloc (.cells #[.int .u8 (y % 256)] 5)).alloc (.cells #[.int .i64 (j : Int), .string s1] 128)) w.heap.size (.slice (some ⟨gg, 0, none⟩) l.length cc) l := HO1.out.below ((Below.refl _ _).alloc (Nat.le_refl _) _)
          have HB2 : Below w.heap.size w ((wr.alloc (.cells #[.int .u8 (y % 256)] 5)).alloc (.cells #[.int .i64 (j : Int), .string s1] 128)) := HB1.out.alloc HB1.out.size _
          go_wp2_with (at_builtin; refine hold ?_)
          refine unhold ?_
          refine wpList_append_own_at (w := ((wr.alloc (.cells #[.int .u8 (y % 256)] 5)).alloc (.cells #[.int .i64 (j : Int), .string s1] 128))) rfl (.tmp 54) (.tmp 58) 45 rfl w.heap.size 128 i0 (.agg #[.int .i64 0, .string ⟨#[]⟩]) 2 24 Try.underlying45 HI.out hz0 hz1 hz2 rfl (by decide) (.slice (some ⟨gg, 0, none⟩) l.length cc) l.length (pcells l) rfl HO2 ⟨wr.heap.size + 1, 0, none⟩ 1 1 [.int .i64 (j : Int), .string s1] rfl rfl hnew (onep _ _) ?c1 ?c2 ?c3 ?_
          case c1 => unfold maxLen; omega
          case c2 => omega
          case c3 => exact HB2.size
          intro v3 w3 ho3 hg3 hiff3 hob3
          have O3 : Hid (OwnPc w3 w.heap.size v3 (l ++ [((j : Int), s1)])) := Lib.hid (ownpc_snoc ho3)
          have B3 : Hid (Below w.heap.size w w3) := Lib.hid (HB2.grown hg3 HB2.size (fun k hk => (World.ownsRow.lt HO2 k hk).1))
          have N3 : Hid (v3 ≠ .slice none 0 0) := Lib.hid (fun e => by have := (hiff3.1 e).2; simp at this)
          have P3 : Hid (POk fr (l ++ [((j : Int), s1)])) := Lib.hid (fun p hp => by
            rcases List.mem_append.1 hp with h | h
            · exact HP.out p h
            · rw [List.mem_singleton.1 h]
              exact ⟨by simp only; omega, by have := HS1.out; simp only; omega⟩)
          have E3 : Hid (Ends (l ++ [((j : Int), s1)]) ((j : Int) + 1)) := Lib.hid ⟨l, (j : Int), s1, rfl, by have := HS1.out; omega⟩
          have L3 : (l ++ [((j : Int), s1)]).length ≤ j + 1 - fr := by simp; omega
          generalize l ++ [((j : Int), s1)] = l3 at *
          clear ho3 hg3 hiff3 hob3 HO2 HB2 hnew
          go_wp2_with fail
          go_roundw
          case rel => exact ⟨j + 1, l3, by omega, by go_num, B3, O3, P3, L3, .inl (by omega), N3, Lib.hid (fun _ _ => E3.out)⟩
          case measure => simp [intOf]; omega
    · have hlt' : ¬ (j : Int) < 30 := by omega
      go_wp2_with fail
      go_ret
      exact ⟨_, l, rfl, HB.out, HO.out, HP.out, by omega, HV.out⟩

end Go.Proofs.Ytifohfclgonhfaa
