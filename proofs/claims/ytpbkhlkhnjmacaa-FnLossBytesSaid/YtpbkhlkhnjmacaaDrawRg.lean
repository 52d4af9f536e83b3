/- The drawn lists of ranges: l91Ranges. -/
import Derived.Test.YtpbkhlkhnjmacaaSet
import Derived.Maps.Range
namespace Go.Proofs.Ytpbkhlkhnjmacaa
open Go.RowKit
set_option linter.unusedVariables false
set_option linter.unusedSimpArgs false

theorem grown_own {w wx w2 : World} {b : Nat} {v : Value} {l : List (Int × Int)} {o : Obj} (h : w.grownBy wx (some b)) (hO : OwnRg wx w.heap.size v l) (hg : (wx.alloc o).grownBy w2 v.ownBlock) : w.grownBy w2 (some b) :=
  World.grownBy.andThen (World.grownBy.trans h (World.grownBy_alloc wx o _)) hg fun j hj => .inl (World.ownsRow.lt hO j hj).1
theorem rdr_own {wx w2 : World} {b k B : Nat} {v : Value} {l : List (Int × Int)} {o : Obj} (h : Rdr wx b k) (hO : OwnRg wx B v l) (hb : b < B) (hg : (wx.alloc o).grownBy w2 v.ownBlock) : Rdr w2 b k :=
  (h.below ((Below.refl _ _).alloc (Nat.le_refl _) o)).grown hg fun r hr => by have := (World.ownsRow.lt hO r hr).1; omega
def Bnd (l : List (Int × Int)) : Prop := ∀ r ∈ l, bnd r.1 ∧ bnd r.2
theorem Bnd.snoc {l : List (Int × Int)} {x y : Int} (h : Bnd l) (hx : bnd x) (hy : bnd y) : Bnd (l ++ [(x, y)]) := by
  intro r hr
  rcases List.mem_append.1 hr with hr | hr
  · exact h r hr
  · have : r = (x, y) := by simpa using hr
    rw [this]; exact ⟨hx, hy⟩

set_option maxRecDepth 100000 in
set_option maxHeartbeats 2000000 in
theorem ranges_any (b k : Nat) (w : World) (R : Rdr w b k) (hk : k ≤ 600000) :
    Calls Try.prog 49 #[.pointer (some ⟨b, 0, none⟩)] w (DrewRg (fun l => Bnd l ∧ l.length ≤ 17) w b k 100) := by
  have hbl := R.1
  obtain ⟨i0, hi0, hz0, hz1, hz2⟩ := info_parts try_infoRange
  have HI := Lib.hid hi0
  clear hi0
  go_enter Try.func49, Try.ntmps49
  go_wp2_with fail
  refine (set_any b k _ w R (by omega) (by omega) (by omega)).mono ?_
  rintro e w1 ⟨v, l, ⟨hv, hl5⟩, rfl, hg1, hR1, ho1, hn1⟩
  have HBD := Lib.hid (show Bnd l from vfrom_bnd l 0 (Int.le_refl _) hv)
  have HO1 := Lib.hid ho1
  have HN1 := Lib.hid hn1
  clear hv ho1 hn1
  go_wp2_with fail
  refine (pick_rdr b _ _ _ hR1 (by omega) (by omega) (by omega)).mono ?_
  rintro e w2 ⟨x, hx, rfl, hg2, hR2⟩
  have G2 := Lib.hid (hg1.trans hg2)
  have HO2 := Lib.hid (HO1.out.picked hg2 hbl)
  clear hg1 hg2
  by_cases x0 : x = 0
  · have hb0 : ((x : Int) == 0) = true := by rw [x0]; rfl
    clear x0
    go_wp2_with fail
    refine (pick_rdr b _ _ _ hR2 (by omega) (by omega) (by omega)).mono ?_
    rintro e w3 ⟨y, hy, rfl, hg3, hR3⟩
    have G3 := Lib.hid (G2.out.trans hg3)
    have HO3 := Lib.hid (HO2.out.picked hg3 hbl)
    clear hg3
    go_wp2_with fail
    refine (pick_rdr b _ _ _ hR3 (by omega) (by omega) (by omega)).mono ?_
    rintro e w4 ⟨z, hz, rfl, hg4, hR4⟩
    have G4 := Lib.hid (G3.out.trans hg4)
    have HO4 := Lib.hid (HO3.out.picked hg4 hbl)
    clear hg4
    obtain ⟨la, lc, rfl⟩ := ownsRow_shape HO4.out
    go_wp2_with (at_builtin; refine hold ?_)
    refine unhold ?_
    refine wpList_append_own (w := w4.alloc (.cells #[.int .i64 ((y : Int) - 2), .int .i64 (z : Int)] 48)) rfl (.tmp 11) (.tmp 18) 37 rfl w.heap.size 48 i0 (.agg #[.int .i64 0, .int .i64 0]) 2 16 Try.underlying37 HI.out hz0 hz1 hz2 rfl (by decide) _ _ _ rfl (World.ownsRow.alloc HO4.out _) ⟨w4.heap.size, 0, none⟩ 1 1 [.int .i64 ((y : Int) - 2), .int .i64 (z : Int)] rfl rfl (cell_two_new _ _ _ _) (one2 _ _) ?Aa ?Ab ?Ac ?_
    case Aa => unfold maxLen; omega
    case Ab => omega
    case Ac => have := G4.out.size; simp; omega
    intro v' w5 hown hgrow hiff
    have HO5 := Lib.hid (own_snoc hown)
    have G5 := Lib.hid (grown_own G4.out HO4.out hgrow)
    have HR5 := Lib.hid (rdr_own (k := k + 20 + 1 + 1 + 1) hR4 HO4.out hbl hgrow)
    have HN5 := Lib.hid (nn_after HN1.out hiff)
    clear hown hgrow hiff
    go_wp2_with fail
    go_ret
    exact ⟨_, _, ⟨HBD.out.snoc ⟨by omega, by omega⟩ ⟨by omega, by omega⟩, by simp; omega⟩, rfl, G5.out, HR5.out.le (by omega), HO5.out, HN5.out⟩
  have hb0 : ((x : Int) == 0) = false := by rw [beq_eq_false_iff_ne]; omega
  by_cases x1 : x = 1
  · have hb1 : ((x : Int) == 1) = true := by rw [x1]; rfl
    clear x1 x0
    go_wp2_with fail
    refine (pick_rdr b _ _ _ hR2 (by omega) (by omega) (by omega)).mono ?_
    rintro e w3 ⟨y, hy, rfl, hg3, hR3⟩
    have G3 := Lib.hid (G2.out.trans hg3)
    have HO3 := Lib.hid (HO2.out.picked hg3 hbl)
    clear hg3
    obtain ⟨la, lc, rfl⟩ := ownsRow_shape HO3.out
    go_wp2_with (at_builtin; refine hold ?_)
    refine unhold ?_
    refine wpList_append_own (w := w3.alloc (.cells #[.int .i64 998, .int .i64 (998 + (y : Int))] 48)) rfl (.tmp 22) (.tmp 27) 37 rfl w.heap.size 48 i0 (.agg #[.int .i64 0, .int .i64 0]) 2 16 Try.underlying37 HI.out hz0 hz1 hz2 rfl (by decide) _ _ _ rfl (World.ownsRow.alloc HO3.out _) ⟨w3.heap.size, 0, none⟩ 1 1 [.int .i64 998, .int .i64 (998 + (y : Int))] rfl rfl (cell_two_new _ _ _ _) (one2 _ _) ?Ba ?Bb ?Bc ?_
    case Ba => unfold maxLen; omega
    case Bb => omega
    case Bc => have := G3.out.size; simp; omega
    intro v' w5 hown hgrow hiff
    have HO5 := Lib.hid (own_snoc hown)
    have G5 := Lib.hid (grown_own G3.out HO3.out hgrow)
    have HR5 := Lib.hid (rdr_own (k := k + 20 + 1 + 1) hR3 HO3.out hbl hgrow)
    have HN5 := Lib.hid (nn_after HN1.out hiff)
    clear hown hgrow hiff
    go_wp2_with fail
    go_ret
    exact ⟨_, _, ⟨HBD.out.snoc ⟨by omega, by omega⟩ ⟨by omega, by omega⟩, by simp; omega⟩, rfl, G5.out, HR5.out.le (by omega), HO5.out, HN5.out⟩
  have hb1 : ((x : Int) == 1) = false := by rw [beq_eq_false_iff_ne]; omega
  by_cases x2 : x = 2
  · have hb2 : ((x : Int) == 2) = true := by rw [x2]; rfl
    clear x1 x0 x2
    have R20 := Lib.hid (hR2.below ((Below.refl _ _).alloc (Nat.le_refl _) (.cells #[] 48)))
    go_wp2_with fail
    go_loopw [3, 4] (fun ov iv wr => ∃ (j : Nat) (m : List (Int × Int)), j ≤ 17 ∧ m.length = j ∧ iv = .int .i64 j ∧ Hid (Bnd m) ∧ Rdr wr b (k + 30 + 2 * j) ∧ OwnRg wr w.heap.size ov m ∧ ov ≠ .slice none 0 0 ∧ w.grownBy wr (some b)) (fun _ iv _ => 18 - (intOf iv).toNat)
    case atStart => exact ⟨0, [], by omega, rfl, rfl, (fun r hr => by simp at hr), R20.out.le (by omega), own_new _ _ _ _ G2.out.size, by simp, World.grownBy.trans G2.out (World.grownBy_alloc _ _ _)⟩
    case round =>
      obtain ⟨j, m, hj, hmj, rfl, HM, hR, ho, hnn, hg⟩ := hrel
      have HO := Lib.hid ho
      have HN := Lib.hid hnn
      have HG := Lib.hid hg
      have HMJ := Lib.hid hmj
      clear ho hnn hg hmj
      go_wp2_with fail
      refine (pick_rdr b _ _ _ hR (by omega) (by omega) (by omega)).mono ?_
      rintro e w3 ⟨y, hy, rfl, hg3, hR3⟩
      have G3 := Lib.hid (HG.out.trans hg3)
      have HO3 := Lib.hid (HO.out.picked hg3 hbl)
      clear hg3
      by_cases hlt : j < 14 + y
      · have hlt' : (j : Int) < 14 + (y : Int) := by omega
        have hj16 : j ≤ 16 := by omega
        have hm16 : m.length ≤ 16 := by have := HMJ.out; omega
        go_wp2_with fail
        refine (pick_rdr b _ _ _ hR3 (by omega) (by omega) (by omega)).mono ?_
        rintro e w4 ⟨z, hz, rfl, hg4, hR4⟩
        have G4 := Lib.hid (G3.out.trans hg4)
        have HO4 := Lib.hid (HO3.out.picked hg4 hbl)
        clear hg4
        obtain ⟨la, lc, rfl⟩ := ownsRow_shape HO4.out
        go_wp2_with (at_builtin; refine hold ?_)
        refine unhold ?_
        refine wpList_append_own (w := w4.alloc (.cells #[.int .i64 (3 * (j : Int)), .int .i64 (3 * (j : Int) + (z : Int))] 48)) rfl (.tmp 39) (.tmp 48) 37 rfl w.heap.size 48 i0 (.agg #[.int .i64 0, .int .i64 0]) 2 16 Try.underlying37 HI.out hz0 hz1 hz2 rfl (by decide) _ _ _ rfl (World.ownsRow.alloc HO4.out _) ⟨w4.heap.size, 0, none⟩ 1 1 [.int .i64 (3 * (j : Int)), .int .i64 (3 * (j : Int) + (z : Int))] rfl rfl (cell_two_new _ _ _ _) (one2 _ _) ?Ca ?Cb ?Cc ?_
        case Ca => unfold maxLen; omega
        case Cb => omega
        case Cc => have := G4.out.size; simp; omega
        intro v' w5 hown hgrow hiff
        have HO5 := Lib.hid (own_snoc hown)
        have G5 := Lib.hid (grown_own G4.out HO4.out hgrow)
        have HR5 := Lib.hid (rdr_own (k := k + 30 + 2 * j + 1 + 1) hR4 HO4.out hbl hgrow)
        have HN5 := Lib.hid (nn_after HN.out hiff)
        clear hown hgrow hiff
        go_wp2_with fail
        go_roundw
        case rel => exact ⟨j + 1, _, by omega, by simp; exact HMJ.out, by go_num, HM.out.snoc ⟨by omega, by omega⟩ ⟨by omega, by omega⟩, HR5.out.le (by omega), HO5.out, HN5.out, G5.out⟩
        case measure => simp [intOf]; omega
      · have hlt' : ¬ (j : Int) < 14 + (y : Int) := by omega
        go_wp2_with fail
        go_ret
        exact ⟨_, m, ⟨HM.out, by have := HMJ.out; omega⟩, rfl, G3.out, hR3.le (by omega), HO3.out, HN.out⟩
  have hb2 : ((x : Int) == 2) = false := by rw [beq_eq_false_iff_ne]; omega
  clear x0 x1 x2
  go_wp2_with fail
  go_ret
  exact ⟨_, l, ⟨HBD.out, by omega⟩, rfl, G2.out, hR2.le (by omega), HO2.out, HN1.out⟩

end Go.Proofs.Ytpbkhlkhnjmacaa
