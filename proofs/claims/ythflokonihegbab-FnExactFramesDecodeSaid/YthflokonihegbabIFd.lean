/- The program's FramesDecode. -/
import Derived.Test.YthflokonihegbabID
import Derived.Test.YthflokonihegbabSFds
namespace Go.Proofs.Ythflokonihegbab
open Go.RowKit
set_option linter.unusedVariables false
set_option linter.unusedSimpArgs false

set_option maxRecDepth 100000 in
set_option maxHeartbeats 2000000 in
theorem ifsdec_any (s : ByteArray) (w : World) (hs : s.size ≤ 4194304) : Calls Try.prog 26 #[.string s] w (FdsPost w (fsF s)) := by
  obtain ⟨i0, hi, hz0, hz1, hz2⟩ := info_parts try_infoFrame
  have HI := Lib.hid hi
  clear hi
  go_enter Try.func26, Try.ntmps26
  go_wp2_with fail
  go_loopw [0, 4, 5, 6, 7] (fun sv ov _ _ _ wr => ∃ (n : Nat) (r : ByteArray) (rows : List FrR), sv = .string r ∧ r.size ≤ s.size ∧ r.size < n ∧ Hid (fsd n r (rows.map Prod.fst) = fsd (s.size + 1) s []) ∧ rows.length ≤ 6 ∧ Hid (OwnFs wr w.heap.size ov rows) ∧ Hid (Below w.heap.size w wr)) (fun sv _ _ _ _ _ => match sv with | .string r => r.size | _ => 0)
  case atStart => exact ⟨s.size + 1, s, [], rfl, Nat.le_refl _, by omega, rfl, by simp, OwnFs.new _ _ (Nat.le_refl _), (Below.refl _ _).alloc (Nat.le_refl _) _⟩
  case round =>
    obtain ⟨n, r, rows, rfl, hr, hn, HS, hl6, HO, HB⟩ := hrel
    obtain ⟨la, lc, rfl⟩ := ownsRow_shape HO.out.1
    by_cases h0 : r.size = 0
    · have he := isEmpty_of_zero h0
      have HF := Lib.hid (fsF_of (HS.out.symm.trans (fsd_end hn h0)))
      clear h0
      by_cases hp : 0 < rows.length
      · have hp' : (0 : Int) < (rows.length : Int) := by omega
        have HF2 : Hid (fsF s = some (rows.map Prod.fst)) := Lib.hid (by rw [HF.out]; show (if 0 < (rows.map Prod.fst).length then _ else _) = _; rw [if_pos (by simpa using hp)])
        go_wp2_with fail
        go_ret2
        exact FdsPost.yes HF2.out HB.out HO.out
      · have hp' : ¬ (0 : Int) < (rows.length : Int) := by omega
        have HF2 : Hid (fsF s = none) := Lib.hid (by rw [HF.out]; show (if 0 < (rows.map Prod.fst).length then _ else _) = _; rw [if_neg (by simpa using hp)])
        have hr0 : rows = [] := List.length_eq_zero_iff.1 (by omega)
        subst hr0
        go_wp2_with fail
        go_ret2
        exact FdsPost.no HF2.out HB.out HO.out
    · have he := isEmpty_of_pos (s := r) (by omega)
      go_wp2_with fail
      refine (ifdec_any r _ (by omega)).mono ?_
      rintro e w1 (⟨hd, fa, fc, rfl, hb, hoz⟩ | ⟨f, u, ra, rc, hd, rfl, hb, ho⟩)
      · have HF := Lib.hid (fsF_of (HS.out.symm.trans (fsd_no hn h0 hd)))
        have HB1 := Lib.hid (HB.out.trans (hb.mono HB.out.size))
        clear hb hd hoz
        unfold frV
        go_wp2_with fail
        go_ret2
        exact FdsPost.no HF.out ((HB1.out.alloc HB1.out.size _).alloc (by have := HB1.out.size; simp; omega) _) (OwnFs.new2 _ _ _ (by have := HB1.out.size; omega))
      · have hu := dec4_pos hd
        have hub : ((u : Int) == 0) = false := bne_of (by omega)
        have hu0 : ¬ (u : Int) = 0 := by omega
        have HB1 := Lib.hid (HB.out.trans (hb.mono HB.out.size))
        have HO1 := Lib.hid (HO.out.below hb)
        have HWZ := HB.out.size
        have HWZ1 := hb.size
        have HAP : Hid (∀ y, (fsl (f, ra, rc)).ownBlock = some y → (Value.slice la rows.length lc).ownBlock ≠ some y) := Lib.hid (fun y hy e => by
          have h1 := (World.ownsRow.lt ho y hy).1
          have h2 := (World.ownsRow.lt HO.out.1 y e).2
          omega)
        have HRG : Hid (OwnRg w1 w.heap.size (fsl (f, ra, rc)) f.rs) := Lib.hid (OwnRg.lower ho (by omega))
        by_cases h6 : 6 ≤ rows.length
        · have HF := Lib.hid (fsF_of (HS.out.symm.trans (fsd_full hn h0 hd (by simpa using h6))))
          have h6' : ((rows.length : Int) == 6) = true := by rw [beq_iff_eq]; omega
          clear hb ho hd
          unfold frV
          go_wp2_with fail
          go_ret2
          exact FdsPost.no HF.out ((HB1.out.alloc HB1.out.size _).alloc (by have := HB1.out.size; simp; omega) _) (OwnFs.new2 _ _ _ (by have := HB1.out.size; omega))
        · have HST := Lib.hid ((fsd_step hn h0 hd (by simpa using h6)).symm.trans HS.out)
          have h6' : ((rows.length : Int) == 6) = false := by rw [beq_eq_false_iff_ne]; omega
          have BA : Below w1.heap.size w1 (w1.alloc (.cells #[.int .i64 f.k, .int .i64 f.a, .int .i64 f.b, .int .i64 f.c, .string f.d, .slice ra f.rs.length rc] 29)) := (Below.refl _ _).alloc (Nat.le_refl _) _
          have HO2 : Hid (OwnFs (w1.alloc (.cells #[.int .i64 f.k, .int .i64 f.a, .int .i64 f.b, .int .i64 f.c, .string f.d, .slice ra f.rs.length rc] 29)) w.heap.size (.slice la rows.length lc) rows) := Lib.hid (HO1.out.below BA)
          have HRG2 : Hid (OwnRg (w1.alloc (.cells #[.int .i64 f.k, .int .i64 f.a, .int .i64 f.b, .int .i64 f.c, .string f.d, .slice ra f.rs.length rc] 29)) w.heap.size (fsl (f, ra, rc)) f.rs) := Lib.hid (OwnRg.below HRG.out BA)
          have HB2 : Hid (Below w.heap.size w (w1.alloc (.cells #[.int .i64 f.k, .int .i64 f.a, .int .i64 f.b, .int .i64 f.c, .string f.d, .slice ra f.rs.length rc] 29))) := Lib.hid (HB1.out.alloc HB1.out.size _)
          have hsW : (w1.alloc (.cells #[.int .i64 f.k, .int .i64 f.a, .int .i64 f.b, .int .i64 f.c, .string f.d, .slice ra f.rs.length rc] 29)).heap.size = w1.heap.size + 1 := by simp
          have NW := news_lit (w1.alloc (.cells #[.int .i64 f.k, .int .i64 f.a, .int .i64 f.b, .int .i64 f.c, .string f.d, .slice ra f.rs.length rc] 29)) 29 (fcell (f, ra, rc)) 6
          rw [hsW] at NW
          have hu' : (u : Int) ≤ (r.size : Int) := by omega
          have hcz := cut_sz r u
          clear hb ho hd BA HO1 HRG
          unfold frV
          go_wp2_with (at_builtin; refine hold ?_)
          refine unhold ?_
          generalize (w1.alloc (.cells #[.int .i64 f.k, .int .i64 f.a, .int .i64 f.b, .int .i64 f.c, .string f.d, .slice ra f.rs.length rc] 29)) = W1 at *
          refine wpList_append_own_at (w := W1.alloc (.cells (fcell (f, ra, rc)).toArray 29)) rfl (.tmp 25) (.tmp 27) 42 rfl w.heap.size 29 i0 (.agg #[.int .i64 0, .int .i64 0, .int .i64 0, .int .i64 0, .string ⟨#[]⟩, .slice none 0 0]) 6 72 Try.underlying42 HI.out hz0 hz1 hz2 rfl (by decide) _ _ _ rfl (World.ownsRow.alloc HO2.out.1 _) ⟨w1.heap.size + 1, 0, none⟩ 1 1 (fcell (f, ra, rc)) rfl rfl NW (one6 _) ?a1 ?a2 ?a3 ?_
          case a1 => unfold maxLen; omega
          case a2 => omega
          case a3 => have := HB2.out.size; simp; omega
          intro v3 w3 ho3 hg3 hiff3 hob3
          have HO3 := Lib.hid (OwnFs.snoc HO2.out HRG2.out HAP.out ho3 hg3 hob3)
          have HB3 := Lib.hid (below_kept (HB2.out.alloc HB2.out.size _) (World.ownsRow.alloc HO2.out.1 _) (by have := HB2.out.size; simp; omega) hg3)
          have HST3 : Hid (fsd (n - 1) (cut r u) ((rows ++ [(f, ra, rc)]).map Prod.fst) = fsd (s.size + 1) s []) := Lib.hid (by rw [List.map_append]; exact HST.out)
          clear ho3 hg3 hiff3 hob3 NW
          go_wp2_with fail
          go_roundw
          case rel => exact ⟨n - 1, cut r u, rows ++ [(f, ra, rc)], rfl, by omega, by omega, HST3, by rw [List.length_append, List.length_singleton]; omega, HO3, HB3⟩
          case measure => show (cut r u).size < r.size; omega
end Go.Proofs.Ythflokonihegbab
