/- Chapter 31, the model: l31Pieces, with what it holds. -/
import Derived.Test.YthdhjjbgegcncaaQvA
import Derived.Test.YthdhjjbgegcncaaCv1
import Derived.Test.YthdhjjbgegcncaaLit
import Derived.Deep.RegionHeld3
namespace Go.Proofs.Ythdhjjbgegcncaa
open Go.RowKit
set_option linter.unusedVariables false
set_option linter.unusedSimpArgs false

/-- Pieces in new memory: the bytes of f from lo on. -/
def PcfPost (w : World) (lo : Nat) (f : Nat → Int) (e : Ending) (w' : World) : Prop := ∃ v l, e = .returned v ∧ Below w.heap.size w w' ∧ OwnPc w' w.heap.size v l ∧ Bld lo f 30 l ∧ l.length ≤ 30 ∧ v ≠ .slice none 0 0
theorem Bld.endsj {lo j : Nat} {f : Nat → Int} {l : List Qc} (h : Bld lo f j l) (hj : lo < j) (hf : 0 ≤ f (j - 1)) : ∃ l0 x d, l = l0 ++ [(x, d)] ∧ x + (d.size : Int) = (j : Int) := by
  have hp : 0 ≤ pat l (j - 1) := by rw [h.2, if_pos ⟨by omega, by omega, hf⟩]; exact hf
  have h1 := pat_end (rd := (lo : Int)) h.1 hp
  have h2 := h.ends (by omega)
  have hn : l ≠ [] := by rintro rfl; simp [pat] at hp
  refine ⟨l.dropLast, (l.getLast hn).1, (l.getLast hn).2, (List.dropLast_concat_getLast hn).symm, ?_⟩
  have h3 := pend_snoc (lo : Int) l.dropLast (l.getLast hn)
  rw [List.dropLast_concat_getLast hn] at h3
  omega

set_option maxRecDepth 100000 in
set_option maxHeartbeats 1000000 in
theorem spiecesf_any (g B : Nat) (fr : Nat) (f : Nat → Int) (w : World) (h : Rowf w B (.slice (some ⟨g, 0, none⟩) 30 30) f) (h1 : fr ≤ 30) (hf : ∀ n, n < 30 → f n ≤ 255) :
    Calls Try.prog 54 #[.slice (some ⟨g, 0, none⟩) 30 30, .int .i64 fr] w (PcfPost w fr f) := by
  obtain ⟨i0, hi, hz0, hz1, hz2⟩ := info_parts try_infoPiece
  have HI := Lib.hid hi
  have hgl := (World.ownsRow.lt h g rfl).2
  have HX : Hid (∀ j, j < 30 → w.cell? ⟨g, j, none⟩ = some (.int .i64 (f j))) := Lib.hid (fun j hj => (h.at j hj).1)
  have HFB := Lib.hid hf
  clear hi hf
  have BB : Hid (Below w.heap.size w (w.alloc (.cells #[] 51))) := Lib.hid ((Below.refl _ _).alloc (Nat.le_refl _) _)
  have OO := Lib.hid (own_new 51 2 w.heap.size w (Nat.le_refl _))
  go_enter Try.func54, Try.ntmps54
  go_wp2_with fail
  go_loopw [5, 6] (fun ov iv wr => ∃ (j : Nat) (l : List Pc), fr ≤ j ∧ iv = .int .i64 j ∧ Hid (Below w.heap.size w wr) ∧ Hid (OwnPc wr w.heap.size ov l) ∧ Hid (Bld fr f j l) ∧ l.length ≤ j - fr ∧ (j ≤ 30 ∨ j = fr) ∧ Hid (ov ≠ .slice none 0 0)) (fun _ iv _ => 30 - (intOf iv).toNat)
  case atStart => exact ⟨fr, [], Nat.le_refl _, rfl, BB, OO, Lib.hid (Bld.nil fr f), by simp, .inr rfl, (by simp [Hid])⟩
  case round =>
    obtain ⟨j, l, hj, rfl, HB, HO, HP, hll, hj3, HV⟩ := hrel
    obtain ⟨gg, cc, rfl, hcc, hg1, hg2⟩ := HO.out.sl HV.out
    by_cases hlt : j < 30
    · have hlt' : (j : Int) < 30 := by omega
      have e1 := HX.out j hlt
      have e1 := (HB.out.cell (p := ⟨g, j, none⟩) hgl).trans e1
      by_cases hneg : f j < 0
      · have HN := Lib.hid hneg
        generalize f j = y at e1 hneg
        go_wp2_with fail
        go_roundw
        case rel => exact ⟨j + 1, l, by omega, by go_num, HB, HO, Lib.hid (HP.out.skip HN.out), by omega, .inl (by omega), HV⟩
        case measure => simp [intOf]; omega
      · have HN := Lib.hid hneg
        have hb255 := HFB.out j hlt
        obtain ⟨y, hy⟩ : ∃ y, f j = y := ⟨_, rfl⟩
        rw [hy] at e1 hneg hb255
        have HY := Lib.hid hy
        have hdy : dat (strOfNums [y % 256]) 0 = y := by rw [show y % 256 = y by omega]; exact dat_num (by omega) hb255
        clear hy
        have cv := conv1 wr wr.heap.size (y % 256) rfl
        have hsz : (strOfNums [y % 256]).size = 1 := by rw [size_nums]; rfl
        generalize strOfNums [y % 256] = s1 at cv hsz hdy
        have HDY : Hid (dat s1 0 = f j) := Lib.hid (by rw [HY.out]; exact hdy)
        clear hdy hb255
        have HS1 := Lib.hid hsz
        have HB1 : Hid (Below w.heap.size w (wr.alloc (.cells #[.int .u8 (y % 256)] 5))) := Lib.hid (HB.out.alloc HB.out.size _)
        have HO1 : Hid (OwnPc (wr.alloc (.cells #[.int .u8 (y % 256)] 5)) w.heap.size (.slice (some ⟨gg, 0, none⟩) l.length cc) l) := Lib.hid (HO.out.below ((Below.refl _ _).alloc (Nat.le_refl _) _))
        clear hsz
        by_cases hfj : (fr : Int) < (j : Int)
        · have hfj' : fr < j := by omega
          have w1 : IntKind.i64.wrap ((j : Int) - 1) = (j : Int) - 1 := IntWalk.i64_in _ (by omega)
          have w2 : (0 : Int) ≤ (j : Int) - 1 := by omega
          have w2' : (1 : Int) ≤ (j : Int) := by omega
          have w3 : ((j : Int) - 1).toNat = j - 1 := by omega
          have w4 : (j : Int) - 1 < 30 := by omega
          have e2 := HX.out (j - 1) (by omega)
          have e2 := (HB1.out.cell (p := ⟨g, j - 1, none⟩) hgl).trans e2
          have e2' := HX.out (j - 1) (by omega)
          have e2' := (HB.out.cell (p := ⟨g, j - 1, none⟩) hgl).trans e2'
          by_cases hp : 0 ≤ f (j - 1)
          · obtain ⟨l0, x, d, rfl, hxd⟩ := HP.out.endsj hfj' hp
            generalize f (j - 1) = y2 at e2 e2' hp
            have hlen : (l0 ++ [(x, d)]).length = l0.length + 1 := by simp
            rw [hlen] at HO HO1 hll hcc
            have pa : (fr : Int) ≤ x := pok_last (q := (x, d)) HP.out.1
            have pb : x + (d.size : Int) ≤ 30 := by omega
            have hd30 : d.size ≤ 30 := by omega
            have hs1 : s1.size ≤ 1 := by have := HS1.out; omega
            have v1 : IntKind.i64.wrap ((l0.length : Int)) = (l0.length : Int) := IntWalk.i64_in _ (by omega)
            have v3 : (0 : Int) ≤ (l0.length : Int) := by omega
            have v5 : (l0.length : Int) < (l0.length : Int) + 1 := by omega
            have hcat : ¬ 9223372036854775807 < d.size + s1.size := by omega
            have q2 := (pcells_at (l0 ++ [(x, d)]) l0.length (by simp)).2
            have hgd : (l0 ++ [(x, d)]).getD l0.length pc0 = (x, d) := by simp [List.getD_eq_getElem?_getD]
            rw [hgd] at q2
            have ho1 := HO1.out
            unfold OwnPc at ho1
            rw [hlen] at ho1
            have c1 := ho1.cellAt (l0.length * 2 + 1) (by omega)
            rw [q2] at c1
            have ho := HO.out
            unfold OwnPc at ho
            rw [hlen] at ho
            have c1' := ho.cellAt (l0.length * 2 + 1) (by omega)
            rw [q2] at c1'
            have z1 := ho1.frozenAt (l0.length * 2 + 1)
            have z1' := ho.frozenAt (l0.length * 2 + 1)
            have st := (ho.stored (l0.length * 2 + 1) (.string (d ++ s1))).1
            rw [pcells_set] at st
            have ST0 : OwnPc (wr.setCell ⟨gg, l0.length * 2 + 1, none⟩ (.string (d ++ s1))) w.heap.size (.slice (some ⟨gg, 0, none⟩) (l0.length + 1) cc) (l0 ++ [(x, d ++ s1)]) := by unfold OwnPc; rw [List.length_append, List.length_singleton]; exact st
            have SB0 : Below w.heap.size w (wr.setCell ⟨gg, l0.length * 2 + 1, none⟩ (.string (d ++ s1))) := HB.out.setCell (p := ⟨gg, l0.length * 2 + 1, none⟩) hg1 _
            have ST : Hid (OwnPc ((wr.setCell ⟨gg, l0.length * 2 + 1, none⟩ (.string (d ++ s1))).alloc (.cells #[.int .u8 (y % 256)] 5)) w.heap.size (.slice (some ⟨gg, 0, none⟩) (l0.length + 1) cc) (l0 ++ [(x, d ++ s1)])) := Lib.hid (ST0.below ((Below.refl _ _).alloc (Nat.le_refl _) _))
            have SB : Hid (Below w.heap.size w ((wr.setCell ⟨gg, l0.length * 2 + 1, none⟩ (.string (d ++ s1))).alloc (.cells #[.int .u8 (y % 256)] 5))) := Lib.hid (SB0.alloc SB0.size _)
            have SP : Hid (Bld fr f (j + 1) (l0 ++ [(x, d ++ s1)])) := Lib.hid (HP.out.ext hxd HS1.out HDY.out hj)
            clear st ho ho1 q2 hgd e2' ST0 SB0
            go_wp2_with fail
            go_roundw
            case rel => exact ⟨j + 1, _, by omega, by go_num, SB, (by rw [hlen]; exact ST), SP, by simp; omega, .inl (by omega), Lib.hid (by simp)⟩
            case measure => simp [intOf]; omega
          · have hp' : ¬ (0 ≤ f (j - 1)) := hp
            have HNP := Lib.hid hp'
            generalize f (j - 1) = y2 at e2 e2' hp'
            have hnew : ∀ k u, [Value.int .i64 (j : Int), Value.string s1][k]? = some u → ((wr.alloc (.cells #[.int .u8 (y % 256)] 5)).alloc (.cells #[.int .i64 (j : Int), .string s1] 51)).cell? ((⟨wr.heap.size + 1, 0, none⟩ : Addr).add k) = some u := by
              have nn := cell_two_new (wr.alloc (.cells #[.int .u8 (y % 256)] 5)) (.int .i64 (j : Int)) (.string s1) 51
              have hsz : (wr.alloc (.cells #[.int .u8 (y % 256)] 5)).heap.size = wr.heap.size + 1 := by simp
              rw [hsz] at nn
              exact nn
            have HO2 : OwnPc ((wr.alloc (.cells #[.int .u8 (y % 256)] 5)).alloc (.cells #[.int .i64 (j : Int), .string s1] 51)) w.heap.size (.slice (some ⟨gg, 0, none⟩) l.length cc) l := HO1.out.below ((Below.refl _ _).alloc (Nat.le_refl _) _)
            have HB2 : Below w.heap.size w ((wr.alloc (.cells #[.int .u8 (y % 256)] 5)).alloc (.cells #[.int .i64 (j : Int), .string s1] 51)) := HB1.out.alloc HB1.out.size _
            go_wp2_with (at_builtin; refine hold ?_)
            refine unhold ?_
            refine wpList_append_own_at (w := ((wr.alloc (.cells #[.int .u8 (y % 256)] 5)).alloc (.cells #[.int .i64 (j : Int), .string s1] 51))) rfl (.tmp 54) (.tmp 58) 22 rfl w.heap.size 51 i0 (.agg #[.int .i64 0, .string ⟨#[]⟩]) 2 24 Try.underlying22 HI.out hz0 hz1 hz2 rfl (by decide) (.slice (some ⟨gg, 0, none⟩) l.length cc) l.length (pcells l) rfl HO2 ⟨wr.heap.size + 1, 0, none⟩ 1 1 [.int .i64 (j : Int), .string s1] rfl rfl hnew (onep _ _) ?c1 ?c2 ?c3 ?_
            case c1 => unfold maxLen; omega
            case c2 => omega
            case c3 => exact HB2.size
            intro v3 w3 ho3 hg3 hiff3 hob3
            have O3 : Hid (OwnPc w3 w.heap.size v3 (l ++ [((j : Int), s1)])) := Lib.hid (ownpc_snoc ho3)
            have B3 : Hid (Below w.heap.size w w3) := Lib.hid (HB2.grown hg3 HB2.size (fun k hk => (World.ownsRow.lt HO2 k hk).1))
            have N3 : Hid (v3 ≠ .slice none 0 0) := Lib.hid (fun e => by have := (hiff3.1 e).2; simp at this)
            have P3 : Hid (Bld fr f (j + 1) (l ++ [((j : Int), s1)])) := Lib.hid (HP.out.new hj (.inr (by have := HNP.out; omega)) HS1.out HDY.out)
            have L3 : (l ++ [((j : Int), s1)]).length ≤ j + 1 - fr := by simp; omega
            generalize l ++ [((j : Int), s1)] = l3 at *
            clear ho3 hg3 hiff3 hob3 HO2 HB2 hnew
            go_wp2_with fail
            go_roundw
            case rel => exact ⟨j + 1, l3, by omega, by go_num, B3, O3, P3, L3, .inl (by omega), N3⟩
            case measure => simp [intOf]; omega
        · skip
          have hnew : ∀ k u, [Value.int .i64 (j : Int), Value.string s1][k]? = some u → ((wr.alloc (.cells #[.int .u8 (y % 256)] 5)).alloc (.cells #[.int .i64 (j : Int), .string s1] 51)).cell? ((⟨wr.heap.size + 1, 0, none⟩ : Addr).add k) = some u := by
            have nn := cell_two_new (wr.alloc (.cells #[.int .u8 (y % 256)] 5)) (.int .i64 (j : Int)) (.string s1) 51
            have hsz : (wr.alloc (.cells #[.int .u8 (y % 256)] 5)).heap.size = wr.heap.size + 1 := by simp
            rw [hsz] at nn
            exact nn
          have HO2 : OwnPc ((wr.alloc (.cells #[.int .u8 (y % 256)] 5)).alloc (.cells #[.int .i64 (j : Int), .string s1] 51)) w.heap.size (.slice (some ⟨gg, 0, none⟩) l.length cc) l := HO1.out.below ((Below.refl _ _).alloc (Nat.le_refl _) _)
          have HB2 : Below w.heap.size w ((wr.alloc (.cells #[.int .u8 (y % 256)] 5)).alloc (.cells #[.int .i64 (j : Int), .string s1] 51)) := HB1.out.alloc HB1.out.size _
          go_wp2_with (at_builtin; refine hold ?_)
          refine unhold ?_
          refine wpList_append_own_at (w := ((wr.alloc (.cells #[.int .u8 (y % 256)] 5)).alloc (.cells #[.int .i64 (j : Int), .string s1] 51))) rfl (.tmp 54) (.tmp 58) 22 rfl w.heap.size 51 i0 (.agg #[.int .i64 0, .string ⟨#[]⟩]) 2 24 Try.underlying22 HI.out hz0 hz1 hz2 rfl (by decide) (.slice (some ⟨gg, 0, none⟩) l.length cc) l.length (pcells l) rfl HO2 ⟨wr.heap.size + 1, 0, none⟩ 1 1 [.int .i64 (j : Int), .string s1] rfl rfl hnew (onep _ _) ?c1 ?c2 ?c3 ?_
          case c1 => unfold maxLen; omega
          case c2 => omega
          case c3 => exact HB2.size
          intro v3 w3 ho3 hg3 hiff3 hob3
          have O3 : Hid (OwnPc w3 w.heap.size v3 (l ++ [((j : Int), s1)])) := Lib.hid (ownpc_snoc ho3)
          have B3 : Hid (Below w.heap.size w w3) := Lib.hid (HB2.grown hg3 HB2.size (fun k hk => (World.ownsRow.lt HO2 k hk).1))
          have N3 : Hid (v3 ≠ .slice none 0 0) := Lib.hid (fun e => by have := (hiff3.1 e).2; simp at this)
          have P3 : Hid (Bld fr f (j + 1) (l ++ [((j : Int), s1)])) := Lib.hid (HP.out.new hj (.inl (by omega)) HS1.out HDY.out)
          have L3 : (l ++ [((j : Int), s1)]).length ≤ j + 1 - fr := by simp; omega
          generalize l ++ [((j : Int), s1)] = l3 at *
          clear ho3 hg3 hiff3 hob3 HO2 HB2 hnew
          go_wp2_with fail
          go_roundw
          case rel => exact ⟨j + 1, l3, by omega, by go_num, B3, O3, P3, L3, .inl (by omega), N3⟩
          case measure => simp [intOf]; omega
    · have hlt' : ¬ (j : Int) < 30 := by omega
      go_wp2_with fail
      go_ret
      exact ⟨_, l, rfl, HB.out, HO.out, by have := HP.out; rwa [show j = 30 by omega] at this, by omega, HV.out⟩

end Go.Proofs.Ythdhjjbgegcncaa
