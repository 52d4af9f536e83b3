/- The program's RangesRemove. -/
import Derived.Test.YtcjhbcibhcogjabSRem
import Derived.Test.YtcjhbcibhcogjabIMerge
import Derived.Test.YtcjhbcibhcogjabIVal
namespace Go.Proofs.Ytcjhbcibhcogjab
open Go.RowKit
set_option linter.unusedVariables false
set_option linter.unusedSimpArgs false

theorem cell_grown {w w' : World} {row : Option Nat} {p : Addr} {v : Value} (h : w.cell? p = some v) (hg : w.grownBy w' row) (hne : row ≠ some p.block) : w'.cell? p = some v :=
  (World.cell?_of_block (hg.block _ (World.block_lt_of_cell? w _ h) (fun e => hne e.symm))).trans h
theorem cell_alloc_any {W : World} {p : Addr} {v : Value} (o : Obj) (h : W.cell? p = some v) : (W.alloc o).cell? p = some v :=
  (World.cell?_of_block (Below.heap_alloc W o _ (World.block_lt_of_cell? W _ h))).trans h
/-- The round's own block is no row's. -/
theorem own_lt_ne {w : World} {B : Nat} {v : Value} {n k : Nat} {e : TypeId} {xs : List Value} (h : w.ownsRow B e k v n xs) : v.ownBlock ≠ some w.heap.size := fun hq => by
  have := (h.lt _ hq).2; omega
theorem below_own2 {w wr w2 : World} {B m k : Nat} {e : TypeId} {v : Value} {xs : List Value} {o o2 : Obj} (h : Below B w wr) (hown : wr.ownsRow B e k v m xs) (hB : B ≤ wr.heap.size) (hg : ((wr.alloc o).alloc o2).grownBy w2 v.ownBlock) : Below B w w2 :=
  below_own (h.alloc hB o) (World.ownsRow.alloc hown o) (by simp; omega) hg
theorem rremOk_no1 {l : List (Int × Int)} {lo hi : Int} (h : rvalid l = false) : rremOk l lo hi = false ∧ rrem l lo hi = [] := by
  have : rremOk l lo hi = false := by unfold rremOk; rw [h]; rfl
  exact ⟨this, by unfold rrem; rw [this]; rfl⟩
theorem rremOk_no2 {l : List (Int × Int)} {lo hi : Int} (h : rvalid [(lo, hi)] = false) : rremOk l lo hi = false ∧ rrem l lo hi = [] := by
  have h' : spanOk lo hi = false := by rw [← h]; simp [rvalid, vfrom, spanOk]
  have : rremOk l lo hi = false := by unfold rremOk; rw [h']; simp
  exact ⟨this, by unfold rrem; rw [this]; rfl⟩
theorem rrem_yes {l : List (Int × Int)} {lo hi : Int} (h1 : rvalid l = true) (h2 : rvalid [(lo, hi)] = true) : decide ((lrem l lo hi).length ≤ 16) = rremOk l lo hi ∧ (if (lrem l lo hi).length ≤ 16 then lrem l lo hi else []) = rrem l lo hi := by
  have h' : spanOk lo hi = true := by rw [← h2]; simp [rvalid, vfrom, spanOk]
  have : rremOk l lo hi = decide ((lrem l lo hi).length ≤ 16) := by unfold rremOk; rw [h1, h']; rfl
  refine ⟨this.symm, ?_⟩
  unfold rrem
  rw [this]
  by_cases h : (lrem l lo hi).length ≤ 16
  · rw [if_pos h, decide_eq_true h]; rfl
  · rw [if_neg h, decide_eq_false h]; rfl
theorem rngs_lit (w : World) (lo hi : Int) : Rngs (w.alloc (.cells #[.int .i64 lo, .int .i64 hi] 49)) (.slice (some ⟨w.heap.size, 0, none⟩) 1 1) [(lo, hi)] := by
  refine ⟨_, _, rfl, fun _ => ⟨_, _, rfl, fun i hi => ?_⟩⟩
  have h0 : i = 0 := by simpa using hi
  subst h0
  exact ⟨cell_two_new w _ _ _ 0 _ rfl, cell_two_new w _ _ _ 1 _ rfl⟩

set_option maxRecDepth 100000 in
set_option maxHeartbeats 4000000 in
theorem irrem_any (v : Value) (l : List (Int × Int)) (lo hi : Int) (w : World) (h : Rngs w v l) (hlen : l.length ≤ 1048576) :
    Calls Try.prog 13 #[v, .int .i64 lo, .int .i64 hi] w (RgPost w (rrem l lo hi) (rremOk l lo hi)) := by
  obtain ⟨i0, hi0, hz0, hz1, hz2⟩ := info_parts try_infoRange
  have HI := Lib.hid hi0
  obtain ⟨a, c, rfl, h1⟩ := id h
  have HR := Lib.hid h
  have HC0 := Lib.hid h1
  clear h h1 hi0
  go_enter Try.func13, Try.ntmps13
  go_wp2_with fail
  refine (ivalid_any _ l w HR.out hlen).mono ?_
  rintro e w1 ⟨rfl, hb1⟩
  have B1 := Lib.hid hb1
  clear hb1
  cases h1 : rvalid l with
  | false =>
    have HX := Lib.hid (rremOk_no1 (lo := lo) (hi := hi) h1)
    clear h1
    go_wp2_with fail
    go_ret2
    rw [HX.out.1, HX.out.2]
    exact RgPost.none B1.out
  | true =>
    have R1 := Lib.hid h1
    clear h1
    go_wp2_with fail
    refine (ivalid_any _ [(lo, hi)] _ (rngs_lit w1 lo hi) (by simp)).mono ?_
    rintro e w2 ⟨rfl, hb2⟩
    have hal := B1.out.alloc B1.out.size (.cells #[.int .i64 lo, .int .i64 hi] 49)
    have B2 := Lib.hid (hal.trans (hb2.mono hal.size))
    clear hb2 hal
    cases h2 : rvalid [(lo, hi)] with
    | false =>
      have HX := Lib.hid (rremOk_no2 (l := l) h2)
      clear h2
      go_wp2_with fail
      go_ret2
      rw [HX.out.1, HX.out.2]
      exact RgPost.none B2.out
    | true =>
      have R2 := Lib.hid h2
      have hsp : 0 ≤ lo ∧ lo ≤ hi ∧ hi ≤ 999 := by
        have := (rvalid_parts h2).1
        rw [vfrom_cons] at this
        exact this.1
      have EQ := Lib.hid (rrem_yes R1.out R2.out)
      have HC := Lib.hid (HR.out.below B2.out)
      have hl16 := (rvalid_parts R1.out).2
      have HVF := Lib.hid (rvalid_parts R1.out).1
      obtain ⟨s0, s1, s2⟩ := hsp
      clear h2
      go_wp2_with fail
      go_loopw [8, 10, 26] (fun ov rv iv wr => ∃ (k : Nat) (out : List (Int × Int)), k ≤ l.length ∧ iv = .int .i64 k ∧ Hid (lrem (l.take k) lo hi = out) ∧ Hid (out.length ≤ 2 * k) ∧ OwnRg wr w.heap.size ov out ∧ Below w.heap.size w wr ∧ ov ≠ .slice none 0 0) (fun _ _ iv _ => l.length - (intOf iv).toNat)
      case atStart => exact ⟨0, [], Nat.zero_le _, rfl, rfl, (by simp : ([] : List (Int × Int)).length ≤ 2 * 0), own_new _ _ _ _ B2.out.size, B2.out.alloc B2.out.size _, by simp⟩
      case round =>
        obtain ⟨k, out, hk, rfl, HF, HLN, hown, hbel, hnn⟩ := hrel
        have HB := Lib.hid hbel
        have HO := Lib.hid hown
        have HN := Lib.hid hnn
        have hol := HLN.out
        clear hbel hown hnn
        by_cases hlt : k < l.length
        · obtain ⟨g, o, rfl, hc⟩ := HC0.out (by rintro rfl; simp at hlt)
          have b1 : (k : Int) < (l.length : Int) := by omega
          obtain ⟨e1, e2⟩ := hc k hlt
          have e1 := (HB.out.cell (World.block_lt_of_cell? w _ e1)).trans e1
          have e2 := (HB.out.cell (World.block_lt_of_cell? w _ e2)).trans e2
          have HST := Lib.hid (lrem_step l k lo hi hlt HF.out)
          have hel := vfrom_els HVF.out (l.getD k (0, 0)) (by rw [List.getD_eq_getElem?_getD, List.getElem?_eq_getElem hlt]; exact List.getElem_mem hlt)
          clear hc
          generalize (l.getD k (0, 0)).1 = x at e1 HST hel
          generalize (l.getD k (0, 0)).2 = y at e2 HST hel
          obtain ⟨x0, xy, y9⟩ := hel
          by_cases c1 : x < lo
          · have hd1 : decide (x < lo) = true := decide_eq_true c1
            obtain ⟨la, lc, rfl⟩ := ownsRow_shape HO.out
            by_cases m1 : lo - 1 < y
            · go_wp2_with (at_builtin; refine hold ?_)
              refine unhold ?_
              refine wpList_append_own (w := (wr.alloc (.cells #[.int .i64 x, .int .i64 y] 49)).alloc (.cells #[.int .i64 x, .int .i64 (lo - 1)] 49)) rfl (.tmp 34) (.tmp 43) 23 rfl w.heap.size 49 i0 (.agg #[.int .i64 0, .int .i64 0]) 2 16 Try.underlying23 HI.out hz0 hz1 hz2 rfl (by decide) _ _ _ rfl (World.ownsRow.alloc (World.ownsRow.alloc HO.out _) _) ⟨wr.heap.size + 1, 0, none⟩ 1 1 [.int .i64 x, .int .i64 (lo - 1)] rfl rfl ?Ad (one2 _ _) ?Aa ?Ab ?Ac ?_
              case Ad => exact cell_two_new' _ _ _ _ (by simp)
              case Aa => unfold maxLen; omega
              case Ab => omega
              case Ac => have := HB.out.size; simp; omega
              intro v' w2 hown2 hgrow hiff
              have HO2 := Lib.hid (own_snoc hown2)
              have HB2 := Lib.hid (below_own2 HB.out HO.out HB.out.size hgrow)
              have HN2 := Lib.hid (nn_after HN.out hiff)
              have hne := own_lt_ne HO.out
              have q1 := cell_grown (cell_alloc_any _ (cell_two_new wr (.int .i64 x) (.int .i64 y) 49 0 _ rfl)) hgrow hne
              have q2 := cell_grown (cell_alloc_any _ (cell_two_new wr (.int .i64 x) (.int .i64 y) 49 1 _ rfl)) hgrow hne
              have q1 : w2.cell? ⟨wr.heap.size, 0, none⟩ = some (.int .i64 x) := q1
              have q2 : w2.cell? ⟨wr.heap.size, 1, none⟩ = some (.int .i64 y) := q2
              have hol2 : (out ++ [(x, lo - 1)]).length ≤ 2 * k + 1 := by simp; omega
              have hsh := ownsRow_shape hown2
              clear hown2 hgrow hiff hne
              have m2 : x < hi + 1 := by omega
              by_cases c2 : hi < y
              · have hd2 : decide (hi < y) = true := decide_eq_true c2
                have HA := Lib.hid (show remOne lo hi (x, y) = [(x, lo - 1), (hi + 1, y)] by simp [remOne, c1, c2]; omega)
                obtain ⟨la2, lc2, rfl⟩ := hsh
                go_wp2_with (at_builtin; refine hold ?_)
                refine unhold ?_
                refine wpList_append_own (w := w2.alloc (.cells #[.int .i64 (hi + 1), .int .i64 y] 49)) rfl (.tmp 49) (.tmp 58) 23 rfl w.heap.size 49 i0 (.agg #[.int .i64 0, .int .i64 0]) 2 16 Try.underlying23 HI.out hz0 hz1 hz2 rfl (by decide) _ _ _ rfl (World.ownsRow.alloc HO2.out _) ⟨w2.heap.size, 0, none⟩ 1 1 [.int .i64 (hi + 1), .int .i64 y] rfl rfl ?Bd (one2 _ _) ?Ba ?Bb ?Bc ?_
                case Bd => exact cell_two_new' _ _ _ _ (by simp)
                case Ba => unfold maxLen; omega
                case Bb => omega
                case Bc => have := HB2.out.size; simp; omega
                intro v'' w3 hown3 hgrow3 hiff3
                have HO3 := Lib.hid (own_snoc (l := out ++ [(x, lo - 1)]) hown3)
                have HB3 := Lib.hid (below_own HB2.out HO2.out HB2.out.size hgrow3)
                have HN3 := Lib.hid (nn_after HN2.out hiff3)
                clear hown3 hgrow3 hiff3
                go_wp2_with fail
                go_roundw
                case rel => exact ⟨k + 1, _, by omega, by go_num, HST.out, (by show _ ≤ _; rw [HA.out]; simp; omega), (by rw [HA.out]; simpa using HO3.out), HB3.out, HN3.out⟩
                case measure => simp [intOf]; omega
              · have hd2 : decide (hi < y) = false := decide_eq_false c2
                have HA := Lib.hid (show remOne lo hi (x, y) = [(x, lo - 1)] by simp [remOne, c1, c2]; omega)
                go_wp2_with fail
                go_roundw
                case rel => exact ⟨k + 1, _, by omega, by go_num, HST.out, (by show _ ≤ _; rw [HA.out]; simp; omega), (by rw [HA.out]; exact HO2.out), HB2.out, HN2.out⟩
                case measure => simp [intOf]; omega
            · have m1e : (lo - 1 < y) = False := eq_false m1
              have c2 : ¬ hi < y := by omega
              go_wp2_with (at_builtin; refine hold ?_)
              refine unhold ?_
              refine wpList_append_own (w := (wr.alloc (.cells #[.int .i64 x, .int .i64 y] 49)).alloc (.cells #[.int .i64 x, .int .i64 y] 49)) rfl (.tmp 34) (.tmp 43) 23 rfl w.heap.size 49 i0 (.agg #[.int .i64 0, .int .i64 0]) 2 16 Try.underlying23 HI.out hz0 hz1 hz2 rfl (by decide) _ _ _ rfl (World.ownsRow.alloc (World.ownsRow.alloc HO.out _) _) ⟨wr.heap.size + 1, 0, none⟩ 1 1 [.int .i64 x, .int .i64 y] rfl rfl ?Dd (one2 _ _) ?Da ?Db ?Dc ?_
              case Dd => exact cell_two_new' _ _ _ _ (by simp)
              case Da => unfold maxLen; omega
              case Db => omega
              case Dc => have := HB.out.size; simp; omega
              intro v' w2 hown2 hgrow hiff
              have HO2 := Lib.hid (own_snoc hown2)
              have HB2 := Lib.hid (below_own2 HB.out HO.out HB.out.size hgrow)
              have HN2 := Lib.hid (nn_after HN.out hiff)
              have hne := own_lt_ne HO.out
              have q1 := cell_grown (cell_alloc_any _ (cell_two_new wr (.int .i64 x) (.int .i64 y) 49 0 _ rfl)) hgrow hne
              have q2 := cell_grown (cell_alloc_any _ (cell_two_new wr (.int .i64 x) (.int .i64 y) 49 1 _ rfl)) hgrow hne
              have q1 : w2.cell? ⟨wr.heap.size, 0, none⟩ = some (.int .i64 x) := q1
              have q2 : w2.cell? ⟨wr.heap.size, 1, none⟩ = some (.int .i64 y) := q2
              clear hown2 hgrow hiff hne
              have c2 : ¬ hi < y := by omega
              have hd2 : decide (hi < y) = false := decide_eq_false c2
              have HA := Lib.hid (show remOne lo hi (x, y) = [(x, y)] by simp [remOne, c1, c2]; omega)
              go_wp2_with fail
              go_roundw
              case rel => exact ⟨k + 1, _, by omega, by go_num, HST.out, (by show _ ≤ _; rw [HA.out]; simp; omega), (by rw [HA.out]; exact HO2.out), HB2.out, HN2.out⟩
              case measure => simp [intOf]; omega
          · have hd1 : decide (x < lo) = false := decide_eq_false c1
            by_cases c2 : hi < y
            · have hd2 : decide (hi < y) = true := decide_eq_true c2
              obtain ⟨la, lc, rfl⟩ := ownsRow_shape HO.out
              by_cases m2 : x < hi + 1
              · have HA := Lib.hid (show remOne lo hi (x, y) = [(hi + 1, y)] by simp [remOne, c1, c2]; omega)
                go_wp2_with (at_builtin; refine hold ?_)
                refine unhold ?_
                refine wpList_append_own (w := (wr.alloc (.cells #[.int .i64 x, .int .i64 y] 49)).alloc (.cells #[.int .i64 (hi + 1), .int .i64 y] 49)) rfl (.tmp 49) (.tmp 58) 23 rfl w.heap.size 49 i0 (.agg #[.int .i64 0, .int .i64 0]) 2 16 Try.underlying23 HI.out hz0 hz1 hz2 rfl (by decide) _ _ _ rfl (World.ownsRow.alloc (World.ownsRow.alloc HO.out _) _) ⟨wr.heap.size + 1, 0, none⟩ 1 1 [.int .i64 (hi + 1), .int .i64 y] rfl rfl ?Ed (one2 _ _) ?Ea ?Eb ?Ec ?_
                case Ed => exact cell_two_new' _ _ _ _ (by simp)
                case Ea => unfold maxLen; omega
                case Eb => omega
                case Ec => have := HB.out.size; simp; omega
                intro v' w2 hown2 hgrow hiff
                have HO2 := Lib.hid (own_snoc hown2)
                have HB2 := Lib.hid (below_own2 HB.out HO.out HB.out.size hgrow)
                have HN2 := Lib.hid (nn_after HN.out hiff)
                clear hown2 hgrow hiff
                go_wp2_with fail
                go_roundw
                case rel => exact ⟨k + 1, _, by omega, by go_num, HST.out, (by show _ ≤ _; rw [HA.out]; simp; omega), (by rw [HA.out]; exact HO2.out), HB2.out, HN2.out⟩
                case measure => simp [intOf]; omega
              · have m2e : (x < hi + 1) = False := eq_false m2
                have HA := Lib.hid (show remOne lo hi (x, y) = [(x, y)] by simp [remOne, c1, c2]; omega)
                go_wp2_with (at_builtin; refine hold ?_)
                refine unhold ?_
                refine wpList_append_own (w := (wr.alloc (.cells #[.int .i64 x, .int .i64 y] 49)).alloc (.cells #[.int .i64 x, .int .i64 y] 49)) rfl (.tmp 49) (.tmp 58) 23 rfl w.heap.size 49 i0 (.agg #[.int .i64 0, .int .i64 0]) 2 16 Try.underlying23 HI.out hz0 hz1 hz2 rfl (by decide) _ _ _ rfl (World.ownsRow.alloc (World.ownsRow.alloc HO.out _) _) ⟨wr.heap.size + 1, 0, none⟩ 1 1 [.int .i64 x, .int .i64 y] rfl rfl ?Fd (one2 _ _) ?Fa ?Fb ?Fc ?_
                case Fd => exact cell_two_new' _ _ _ _ (by simp)
                case Fa => unfold maxLen; omega
                case Fb => omega
                case Fc => have := HB.out.size; simp; omega
                intro v' w2 hown2 hgrow hiff
                have HO2 := Lib.hid (own_snoc hown2)
                have HB2 := Lib.hid (below_own2 HB.out HO.out HB.out.size hgrow)
                have HN2 := Lib.hid (nn_after HN.out hiff)
                clear hown2 hgrow hiff
                go_wp2_with fail
                go_roundw
                case rel => exact ⟨k + 1, _, by omega, by go_num, HST.out, (by show _ ≤ _; rw [HA.out]; simp; omega), (by rw [HA.out]; exact HO2.out), HB2.out, HN2.out⟩
                case measure => simp [intOf]; omega
            · have hd2 : decide (hi < y) = false := decide_eq_false c2
              have HA := Lib.hid (show remOne lo hi (x, y) = [] by simp [remOne, c1, c2])
              have HB2 := Lib.hid (HB.out.alloc HB.out.size (.cells #[.int .i64 x, .int .i64 y] 49))
              have HO2 := Lib.hid (World.ownsRow.alloc HO.out (.cells #[.int .i64 x, .int .i64 y] 49))
              go_wp2_with fail
              go_roundw
              case rel => exact ⟨k + 1, _, by omega, by go_num, HST.out, (by show _ ≤ _; rw [HA.out]; simp; omega), (by rw [HA.out]; rw [List.append_nil]; exact HO2.out), HB2.out, HN.out⟩
              case measure => simp [intOf]; omega
        · have hfin : lrem l lo hi = out := by
            have := HF.out
            rwa [List.take_of_length_le (by omega)] at this
          have HFIN := Lib.hid hfin
          clear hfin
          go_wp2_with fail
          refine (limit_any _ out wr w.heap.size HO.out HN.out HB.out.size (by omega)).mono ?_
          rintro e w6 ⟨v6, rfl, hb6, ho6, hn6⟩
          rw [← HFIN.out] at ho6 ⊢
          rw [EQ.out.1]
          rw [EQ.out.2] at ho6
          have B6 := Lib.hid (HB.out.trans (hb6.mono HB.out.size))
          have O6 := Lib.hid ho6
          have N6 := Lib.hid hn6
          clear hb6 ho6 hn6
          go_wp2_with fail
          go_ret2
          exact ⟨_, rfl, B6.out, O6.out, N6.out⟩

end Go.Proofs.Ytcjhbcibhcogjab
