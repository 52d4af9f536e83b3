/- The model's l2Add. -/
import Derived.Test.YtpbkhlkhnjmacaaRgOwn
import Derived.WalkSmall
namespace Go.Proofs.Ytpbkhlkhnjmacaa
open Go.RowKit
set_option linter.unusedVariables false
set_option linter.unusedSimpArgs false

def AddPost (w : World) (l : List (Int × Int)) (lo hi : Int) (e : Ending) (w' : World) : Prop :=
  ∃ v : Value, e = .returned v ∧ Below w.heap.size w w' ∧ OwnRg w' w.heap.size v (ladd l lo hi) ∧ v ≠ .slice none 0 0

theorem fold_step (l : List (Int × Int)) (k : Nat) (h : k < l.length) {s0 s : List (Int × Int) × Bool × Int × Int} (hf : (l.take k).foldl addStep s0 = s) : (l.take (k + 1)).foldl addStep s0 = addStep s ((l.getD k (0, 0)).1, (l.getD k (0, 0)).2) := by
  rw [take_get l k h, List.foldl_append, hf]
  rfl

set_option maxRecDepth 100000 in
set_option maxHeartbeats 2000000 in
theorem sadd_any (v : Value) (l : List (Int × Int)) (lo hi : Int) (w : World) (h : Rngs w v l) (hlen : l.length ≤ 1048576) (hlo : bnd lo) (hhi : bnd hi) (hel : ∀ r ∈ l, bnd r.1 ∧ bnd r.2) :
    Calls Try.prog 61 #[v, .int .i64 lo, .int .i64 hi] w (AddPost w l lo hi) := by
  obtain ⟨i0, hi0, hz0, hz1, hz2⟩ := info_parts try_infoRange
  have HI := Lib.hid hi0
  obtain ⟨a, c, rfl, h⟩ := h
  have HC := Lib.hid h
  have HEL := Lib.hid hel
  have HLO := Lib.hid hlo
  have HHI := Lib.hid hhi
  clear h hi0 hel hlo hhi
  go_enter Try.func61, Try.ntmps61
  go_wp2_with fail
  go_loopw [1, 2, 7, 8, 9] (fun lv hv ov pv iv wr => ∃ (k : Nat) (out : List (Int × Int)) (put : Bool) (lo' hi' : Int), k ≤ l.length ∧ iv = .int .i64 k ∧ pv = .bool put ∧ lv = .int .i64 lo' ∧ hv = .int .i64 hi' ∧ Hid ((l.take k).foldl addStep ([], false, lo, hi) = (out, put, lo', hi')) ∧ Hid (bnd lo' ∧ bnd hi' ∧ out.length ≤ 2 * k) ∧ OwnRg wr w.heap.size ov out ∧ Below w.heap.size w wr ∧ ov ≠ .slice none 0 0) (fun _ _ _ _ iv _ => l.length - (intOf iv).toNat)
  case atStart => exact ⟨0, [], false, lo, hi, Nat.zero_le _, rfl, rfl, rfl, rfl, rfl, ⟨HLO.out, HHI.out, by simp⟩, own_new _ _ _ _ (Nat.le_refl _), (Below.refl _ _).alloc (Nat.le_refl _) _, by simp⟩
  case round =>
    obtain ⟨k, out, put, lo', hi', hk, rfl, rfl, rfl, rfl, HF, HBN, hown, hbel, hnn⟩ := hrel
    have HB := Lib.hid hbel
    have HO := Lib.hid hown
    have HN := Lib.hid hnn
    obtain ⟨⟨lo1, lo2⟩, ⟨hi1, hi2⟩, hol⟩ := HBN.out
    clear hbel hown hnn
    by_cases hlt : k < l.length
    · obtain ⟨g, o, rfl, hc⟩ := HC.out (by rintro rfl; simp at hlt)
      have b1 : (k : Int) < (l.length : Int) := by omega
      obtain ⟨e1, e2⟩ := hc k hlt
      have E1 := Lib.hid e1
      have E2 := Lib.hid e2
      have e1 := (HB.out.cell (World.block_lt_of_cell? w _ E1.out)).trans E1.out
      have e2 := (HB.out.cell (World.block_lt_of_cell? w _ E2.out)).trans E2.out
      have HST := Lib.hid (fold_step l k hlt HF.out)
      have hbx := HEL.out (l.getD k (0, 0)) (by rw [List.getD_eq_getElem?_getD, List.getElem?_eq_getElem hlt]; exact List.getElem_mem hlt)
      clear hc
      generalize (l.getD k (0, 0)).1 = x at e1 E1 HST hbx
      generalize (l.getD k (0, 0)).2 = y at e2 E2 HST hbx
      obtain ⟨⟨x1, x2⟩, ⟨y1, y2⟩⟩ := hbx
      by_cases c1 : y < lo' - 1
      · have HA := Lib.hid (show addStep (out, put, lo', hi') (x, y) = (out ++ [(x, y)], put, lo', hi') by simp [addStep, c1])
        obtain ⟨la, lc, rfl⟩ := ownsRow_shape HO.out
        go_wp2_with (at_builtin; refine hold ?_)
        refine unhold ?_
        refine wpList_append_own (w := wr.alloc (.cells #[.int .i64 x, .int .i64 y] 48)) rfl (.tmp 40) (.tmp 45) 37 rfl w.heap.size 48 i0 (.agg #[.int .i64 0, .int .i64 0]) 2 16 Try.underlying37 HI.out hz0 hz1 hz2 rfl (by decide) _ _ _ rfl (HO.out.alloc _) ⟨wr.heap.size, 0, none⟩ 1 1 [.int .i64 x, .int .i64 y] rfl rfl (cell_two_new _ _ _ _) (one2 _ _) ?Aa ?Ab ?Ac ?_
        case Aa => unfold maxLen; omega
        case Ab => omega
        case Ac => have := HB.out.size; simp; omega
        intro v' w2 hown2 hgrow hiff
        have HO2 := Lib.hid (own_snoc hown2)
        have HB2 := Lib.hid (below_own HB.out HO.out HB.out.size hgrow)
        have HN2 := Lib.hid (nn_after HN.out hiff)
        clear hown2 hgrow hiff
        go_wp2_with fail
        go_roundw
        case rel => exact ⟨k + 1, _, put, lo', hi', by omega, by go_num, rfl, rfl, rfl, HST.out.trans HA.out, ⟨⟨lo1, lo2⟩, ⟨hi1, hi2⟩, by simp; omega⟩, HO2.out, HB2.out, HN2.out⟩
        case measure => simp [intOf]; omega
      · by_cases c2 : hi' + 1 < x
        · cases put
          · have HA := Lib.hid (show addStep (out, false, lo', hi') (x, y) = (out ++ [(lo', hi')] ++ [(x, y)], true, lo', hi') by simp [addStep, c1, c2])
            obtain ⟨la, lc, rfl⟩ := ownsRow_shape HO.out
            go_wp2_with (at_builtin; refine hold ?_)
            refine unhold ?_
            refine wpList_append_own (w := wr.alloc (.cells #[.int .i64 lo', .int .i64 hi'] 48)) rfl (.tmp 58) (.tmp 62) 37 rfl w.heap.size 48 i0 (.agg #[.int .i64 0, .int .i64 0]) 2 16 Try.underlying37 HI.out hz0 hz1 hz2 rfl (by decide) _ _ _ rfl (HO.out.alloc _) ⟨wr.heap.size, 0, none⟩ 1 1 [.int .i64 lo', .int .i64 hi'] rfl rfl (cell_two_new _ _ _ _) (one2 _ _) ?Ba ?Bb ?Bc ?_
            case Ba => unfold maxLen; omega
            case Bb => omega
            case Bc => have := HB.out.size; simp; omega
            intro v' w2 hown2 hgrow hiff
            have HO2 := Lib.hid hown2
            have hsh := ownsRow_shape hown2
            have HB2 := Lib.hid (below_own HB.out HO.out HB.out.size hgrow)
            have HN2 := Lib.hid (nn_after HN.out hiff)
            have f1 := (HB2.out.cell (World.block_lt_of_cell? w _ E1.out)).trans E1.out
            have f2 := (HB2.out.cell (World.block_lt_of_cell? w _ E2.out)).trans E2.out
            have hol2 : (out ++ [(lo', hi')]).length ≤ 2 * k + 1 := by simp; omega
            clear hown2 hgrow hiff
            obtain ⟨la2, lc2, rfl⟩ := hsh
            go_wp2_with (at_builtin; refine hold ?_)
            refine unhold ?_
            refine wpList_append_own (w := w2.alloc (.cells #[.int .i64 x, .int .i64 y] 48)) rfl (.tmp 64) (.tmp 69) 37 rfl w.heap.size 48 i0 (.agg #[.int .i64 0, .int .i64 0]) 2 16 Try.underlying37 HI.out hz0 hz1 hz2 rfl (by decide) _ _ _ rfl (HO2.out.alloc _) ⟨w2.heap.size, 0, none⟩ 1 1 [.int .i64 x, .int .i64 y] rfl rfl (cell_two_new _ _ _ _) (one2 _ _) ?Ca ?Cb ?Cc ?_
            case Ca => unfold maxLen; omega
            case Cb => omega
            case Cc => have := HB2.out.size; simp; omega
            intro v'' w3 hown3 hgrow3 hiff3
            have HO3 := Lib.hid (own_snoc2 hown3)
            have HB3 := Lib.hid (below_own HB2.out HO2.out HB2.out.size hgrow3)
            have HN3 := Lib.hid (nn_after HN2.out hiff3)
            clear hown3 hgrow3 hiff3
            go_wp2_with fail
            go_roundw
            case rel => exact ⟨k + 1, _, true, lo', hi', by omega, by go_num, rfl, rfl, rfl, HST.out.trans HA.out, ⟨⟨lo1, lo2⟩, ⟨hi1, hi2⟩, by simp at hol2 ⊢; omega⟩, HO3.out, HB3.out, HN3.out⟩
            case measure => simp [intOf]; omega
          · have HA := Lib.hid (show addStep (out, true, lo', hi') (x, y) = (out ++ [(x, y)], true, lo', hi') by simp [addStep, c1, c2])
            obtain ⟨la, lc, rfl⟩ := ownsRow_shape HO.out
            go_wp2_with (at_builtin; refine hold ?_)
            refine unhold ?_
            refine wpList_append_own (w := wr.alloc (.cells #[.int .i64 x, .int .i64 y] 48)) rfl (.tmp 64) (.tmp 69) 37 rfl w.heap.size 48 i0 (.agg #[.int .i64 0, .int .i64 0]) 2 16 Try.underlying37 HI.out hz0 hz1 hz2 rfl (by decide) _ _ _ rfl (HO.out.alloc _) ⟨wr.heap.size, 0, none⟩ 1 1 [.int .i64 x, .int .i64 y] rfl rfl (cell_two_new _ _ _ _) (one2 _ _) ?Da ?Db ?Dc ?_
            case Da => unfold maxLen; omega
            case Db => omega
            case Dc => have := HB.out.size; simp; omega
            intro v' w2 hown2 hgrow hiff
            have HO2 := Lib.hid (own_snoc hown2)
            have HB2 := Lib.hid (below_own HB.out HO.out HB.out.size hgrow)
            have HN2 := Lib.hid (nn_after HN.out hiff)
            clear hown2 hgrow hiff
            go_wp2_with fail
            go_roundw
            case rel => exact ⟨k + 1, _, true, lo', hi', by omega, by go_num, rfl, rfl, rfl, HST.out.trans HA.out, ⟨⟨lo1, lo2⟩, ⟨hi1, hi2⟩, by simp; omega⟩, HO2.out, HB2.out, HN2.out⟩
            case measure => simp [intOf]; omega
        · have HA := Lib.hid (show addStep (out, put, lo', hi') (x, y) = (out, put, min lo' x, max hi' y) by simp [addStep, c1, c2])
          go_wp2_with fail
          go_roundw
          case rel => exact ⟨k + 1, out, put, min lo' x, max hi' y, by omega, by go_num, rfl, (by first | rfl | (congr 1; omega)), (by first | rfl | (congr 1; omega)), HST.out.trans HA.out, ⟨⟨by omega, by omega⟩, ⟨by omega, by omega⟩, by omega⟩, HO.out, HB.out, HN.out⟩
          case measure => simp [intOf]; omega
    · have hfin : ladd l lo hi = addEnd (out, put, lo', hi') := by
        have := HF.out
        rw [List.take_of_length_le (by omega)] at this
        unfold ladd; rw [this]
      have HFIN := Lib.hid hfin
      clear hfin
      cases put
      · obtain ⟨la, lc, rfl⟩ := ownsRow_shape HO.out
        go_wp2_with (at_builtin; refine hold ?_)
        refine unhold ?_
        refine wpList_append_own (w := wr.alloc (.cells #[.int .i64 lo', .int .i64 hi'] 48)) rfl (.tmp 73) (.tmp 77) 37 rfl w.heap.size 48 i0 (.agg #[.int .i64 0, .int .i64 0]) 2 16 Try.underlying37 HI.out hz0 hz1 hz2 rfl (by decide) _ _ _ rfl (HO.out.alloc _) ⟨wr.heap.size, 0, none⟩ 1 1 [.int .i64 lo', .int .i64 hi'] rfl rfl (cell_two_new _ _ _ _) (one2 _ _) ?Ea ?Eb ?Ec ?_
        case Ea => unfold maxLen; omega
        case Eb => omega
        case Ec => have := HB.out.size; simp; omega
        intro v' w2 hown2 hgrow hiff
        have HO2 := Lib.hid (own_snoc hown2)
        have HB2 := Lib.hid (below_own HB.out HO.out HB.out.size hgrow)
        have HN2 := Lib.hid (nn_after HN.out hiff)
        clear hown2 hgrow hiff
        go_wp2_with fail
        go_ret
        exact ⟨_, rfl, HB2.out, by rw [HFIN.out]; exact HO2.out, HN2.out⟩
      · go_wp2_with fail
        go_ret
        exact ⟨_, rfl, HB.out, by rw [HFIN.out]; exact HO.out, HN.out⟩

end Go.Proofs.Ytpbkhlkhnjmacaa
