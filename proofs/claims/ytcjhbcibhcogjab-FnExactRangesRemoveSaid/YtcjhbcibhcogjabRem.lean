/- The model's l2Remove. -/
import Derived.Test.YtcjhbcibhcogjabAdd
import Derived.Deep.RegionHeld3
import Derived.StillTactics
import Derived.OwnWalk
import Derived.Laws.Pointers
import Derived.Deep.AppendLies
namespace Go.Proofs.Ytcjhbcibhcogjab
open Go.RowKit
set_option linter.unusedVariables false
set_option linter.unusedSimpArgs false

def RemPost (w : World) (l : List (Int × Int)) (e : Ending) (w' : World) : Prop :=
  ∃ v : Value, e = .returned v ∧ Below w.heap.size w w' ∧ OwnRg w' w.heap.size v l ∧ v ≠ .slice none 0 0
theorem lrem_step (l : List (Int × Int)) (k : Nat) (lo hi : Int) (h : k < l.length) {out : List (Int × Int)} (ho : lrem (l.take k) lo hi = out) : lrem (l.take (k + 1)) lo hi = out ++ remOne lo hi ((l.getD k (0, 0)).1, (l.getD k (0, 0)).2) := by
  rw [take_get l k h]
  unfold lrem at ho ⊢
  rw [List.flatMap_append, ho]
  simp
theorem own_far {w : World} {B g : Nat} {v : Value} {l : List (Int × Int)} (h : OwnRg w B v l) (hg : g < B) : v.ownBlock ≠ some g := fun hq => by
  have := (World.ownsRow.lt h g hq).1; omega

theorem below_app {w wr w1 : World} {v : Value} {l : List (Int × Int)} {o : Obj} (h : Below w.heap.size w wr) (hO : OwnRg wr w.heap.size v l) (hg : ((wr.alloc o).drew).grownBy w1 v.ownBlock) : Below w.heap.size w w1 :=
  ((h.alloc h.size o).drew).grown hg (by have := h.size; simp; omega) (fun k hk => (World.ownsRow.lt hO k hk).1)
theorem below_app1 {w wr w1 : World} {v : Value} {n : Nat} {xs : List Value} {o : Obj} (h : Below w.heap.size w wr) (hO : wr.ownsRow w.heap.size 49 2 v n xs) (hg : ((wr.alloc o).drew).grownBy w1 v.ownBlock) : Below w.heap.size w w1 :=
  ((h.alloc h.size o).drew).grown hg (by have := h.size; simp; omega) (fun k hk => (World.ownsRow.lt hO k hk).1)
theorem raw_far {w : World} {B g n : Nat} {v : Value} {xs : List Value} (h : w.ownsRow B 49 2 v n xs) (hg : g < B) : v.ownBlock ≠ some g := fun hq => by
  have := (World.ownsRow.lt h g hq).1; omega

set_option maxRecDepth 100000 in
set_option maxHeartbeats 3200000 in
theorem srem_any (v : Value) (l : List (Int × Int)) (lo hi : Int) (w : World) (h : Rngs w v l) (hlen : l.length ≤ 1048576) (hlo : bnd lo) (hhi : bnd hi) :
    Calls Try.prog 38 #[v, .int .i64 lo, .int .i64 hi] w (RemPost w (lrem l lo hi)) := by
  obtain ⟨i0, hi0, hz0, hz1, hz2⟩ := info_parts try_infoRange
  have HI := Lib.hid hi0
  obtain ⟨a, c, rfl, h⟩ := h
  have HC := Lib.hid h
  obtain ⟨lo1, lo2⟩ := hlo
  obtain ⟨hi1, hi2⟩ := hhi
  clear h hi0
  go_enter Try.func38, Try.ntmps38
  go_wp2_with fail
  go_loopw [7, 8] (fun ov iv wr => ∃ (k : Nat) (out : List (Int × Int)), k ≤ l.length ∧ iv = .int .i64 k ∧ Hid (lrem (l.take k) lo hi = out) ∧ Hid (out.length ≤ 2 * k) ∧ OwnRg wr w.heap.size ov out ∧ Below w.heap.size w wr ∧ ov ≠ .slice none 0 0) (fun _ iv _ => l.length - (intOf iv).toNat)
  case atStart => exact ⟨0, [], Nat.zero_le _, rfl, rfl, (by simp : ([] : List (Int × Int)).length ≤ 2 * 0), own_new _ _ _ _ (Nat.le_refl _), (Below.refl _ _).alloc (Nat.le_refl _) _, by simp⟩
  case round =>
    obtain ⟨k, out, hk, rfl, HF, HLN, hown, hbel, hnn⟩ := hrel
    have HB := Lib.hid hbel
    have HO := Lib.hid hown
    have HN := Lib.hid hnn
    have hol := HLN.out
    have hbs := hbel.size
    clear hbel hown hnn
    by_cases hlt : k < l.length
    · obtain ⟨g, o, rfl, hc⟩ := HC.out (by rintro rfl; simp at hlt)
      have b1 : (k : Int) < (l.length : Int) := by omega
      have b0 : (0 : Int) ≤ (k : Int) := by omega
      obtain ⟨e1, e2⟩ := hc k hlt
      have hgw := World.block_lt_of_cell? w _ e1
      have hgl : g < w.heap.size := hgw
      have E1 := Lib.hid e1
      have E2 := Lib.hid e2
      have e1 := (HB.out.cell (World.block_lt_of_cell? w _ E1.out)).trans E1.out
      have e2 := (HB.out.cell (World.block_lt_of_cell? w _ E2.out)).trans E2.out
      have HST := Lib.hid (lrem_step l k lo hi hlt HF.out)
      clear hc
      generalize (l.getD k (0, 0)).1 = x at e1 E1 HST
      generalize (l.getD k (0, 0)).2 = y at e2 E2 HST
      have w1 : IntKind.i64.wrap (lo - 1) = lo - 1 := IntWalk.i64_in _ (by omega)
      have w2 : IntKind.i64.wrap (hi + 1) = hi + 1 := IntWalk.i64_in _ (by omega)
      obtain ⟨la, lc, rfl⟩ := ownsRow_shape HO.out
      have hfar := own_far HO.out hgl
      by_cases c1 : x < lo
      · by_cases hm : lo - 1 < y
        · have hmin : min y (lo - 1) = (lo - 1) := by omega
          have HMIN := Lib.hid hmin
          clear hmin
          go_wp2_with fail
          go_region_held3 (fun w' => w'.cell? ⟨g, o + k * 2, none⟩ = some (.int .i64 x) ∧ w'.cell? ⟨g, o + k * 2 + 1, none⟩ = some (.int .i64 y))
            (first
              | go_keep
              | (go_split_ands
                 refine ⟨?_, ?_⟩
                 · (rw [hgrow1.cell_far _ (by simp; omega) (Ne.symm hfar)]; assumption)
                 · (rw [hgrow1.cell_far _ (by simp; omega) (Ne.symm hfar)]; assumption)))
            ((refine step_append_lies _ (by rfl) _ _ _ (by rfl) w.heap.size 49 i0 _ 2 16 Try.underlying23 HI.out hz0 hz1 hz2 rfl (by omega) _ out.length (rcells out) (by rfl) ((World.ownsRow.alloc HO.out _).drew)
                ⟨wr.heap.size, 0, none⟩ 1 1 [.int .i64 x, .int .i64 (lo - 1)] (by rfl) (by rfl) (World.news_of_block (cs := #[.int .i64 x, .int .i64 (lo - 1)]) (t := 49) (fr := (0, 0)) (heap_alloc_new wr _)) (by simp [Value.oneCell'])
                (by omega) (by unfold maxLen; omega) (by omega) (by simp; omega) (wr.heap.size + 1) (by simp) ?_; intro gg1 cap1 wa1 hown1 hgrow1 hat1 hlt1))
          have HB1 := Lib.hid (below_app HB.out HO.out hgrow1)
          have HO1 := Lib.hid hown1
          have hfar1 := raw_far hown1 hgl
          have hbs1 := HB1.out.size
          have e1 := (HB1.out.cell (World.block_lt_of_cell? w _ E1.out)).trans E1.out
          have e2 := (HB1.out.cell (World.block_lt_of_cell? w _ E2.out)).trans E2.out
          clear hown1 hgrow1 hat1 hlt1
          by_cases c2 : hi < y
          · by_cases hM : x < hi + 1
            · have hmax : max x (hi + 1) = (hi + 1) := by omega
              have HR := Lib.hid (show remOne lo hi (x, y) = [(x, (lo - 1))] ++ [((hi + 1), y)] by unfold remOne; rw [if_pos c1, if_pos c2]; simp only [hmax, HMIN.out])
              clear hmax
              go_wp2_with fail
              go_region_held3 (fun w' => w'.cell? ⟨g, o + k * 2, none⟩ = some (.int .i64 x) ∧ w'.cell? ⟨g, o + k * 2 + 1, none⟩ = some (.int .i64 y))
                (first
                  | go_keep
                  | (go_split_ands
                     refine ⟨?_, ?_⟩
                     · (rw [hgrow2.cell_far _ (by simp; omega) (Ne.symm hfar1)]; assumption)
                     · (rw [hgrow2.cell_far _ (by simp; omega) (Ne.symm hfar1)]; assumption)))
                ((refine step_append_lies _ (by rfl) _ _ _ (by rfl) w.heap.size 49 i0 _ 2 16 Try.underlying23 HI.out hz0 hz1 hz2 rfl (by omega) _ (out.length + 1) (rcells out ++ [.int .i64 x, .int .i64 (lo - 1)]) (by rfl) ((World.ownsRow.alloc HO1.out _).drew)
                    ⟨wa1.heap.size, 0, none⟩ 1 1 [.int .i64 (hi + 1), .int .i64 y] (by rfl) (by rfl) (World.news_of_block (cs := #[.int .i64 (hi + 1), .int .i64 y]) (t := 49) (fr := (0, 0)) (heap_alloc_new wa1 _)) (by simp [Value.oneCell'])
                    (by omega) (by unfold maxLen; omega) (by omega) (by simp; omega) (wa1.heap.size + 1) (by simp) ?_; intro gg2 cap2 wa2 hown2 hgrow2 hat2 hlt2))
              have HB9 := Lib.hid (below_app1 HB1.out HO1.out hgrow2)
              have HO9 := Lib.hid (own_snoc2 hown2)
              clear hown2 hgrow2 hat2 hlt2
              go_wp2_with fail
              go_roundw
              case rel => exact ⟨k + 1, out ++ [(x, (lo - 1))] ++ [((hi + 1), y)], by omega, by go_num, (by show _ = _; rw [HST.out, HR.out]; simp), (by simp; omega : (out ++ [(x, (lo - 1))] ++ [((hi + 1), y)]).length ≤ 2 * (k + 1)), HO9.out, HB9.out, by simp⟩
              case measure => simp [intOf]; omega
            · have hmax : max x (hi + 1) = x := by omega
              have hMf : (x < hi + 1) = False := eq_false hM
              have HR := Lib.hid (show remOne lo hi (x, y) = [(x, (lo - 1))] ++ [(x, y)] by unfold remOne; rw [if_pos c1, if_pos c2]; simp only [hmax, HMIN.out])
              clear hmax
              go_wp2_with fail
              go_region_held3 (fun w' => w'.cell? ⟨g, o + k * 2, none⟩ = some (.int .i64 x) ∧ w'.cell? ⟨g, o + k * 2 + 1, none⟩ = some (.int .i64 y))
                (first
                  | go_keep
                  | (go_split_ands
                     refine ⟨?_, ?_⟩
                     · (rw [hgrow2.cell_far _ (by simp; omega) (Ne.symm hfar1)]; assumption)
                     · (rw [hgrow2.cell_far _ (by simp; omega) (Ne.symm hfar1)]; assumption)))
                ((refine step_append_lies _ (by rfl) _ _ _ (by rfl) w.heap.size 49 i0 _ 2 16 Try.underlying23 HI.out hz0 hz1 hz2 rfl (by omega) _ (out.length + 1) (rcells out ++ [.int .i64 x, .int .i64 (lo - 1)]) (by rfl) ((World.ownsRow.alloc HO1.out _).drew)
                    ⟨wa1.heap.size, 0, none⟩ 1 1 [.int .i64 x, .int .i64 y] (by rfl) (by rfl) (World.news_of_block (cs := #[.int .i64 x, .int .i64 y]) (t := 49) (fr := (0, 0)) (heap_alloc_new wa1 _)) (by simp [Value.oneCell'])
                    (by omega) (by unfold maxLen; omega) (by omega) (by simp; omega) (wa1.heap.size + 1) (by simp) ?_; intro gg2 cap2 wa2 hown2 hgrow2 hat2 hlt2))
              have HB9 := Lib.hid (below_app1 HB1.out HO1.out hgrow2)
              have HO9 := Lib.hid (own_snoc2 hown2)
              clear hown2 hgrow2 hat2 hlt2
              go_wp2_with fail
              go_roundw
              case rel => exact ⟨k + 1, out ++ [(x, (lo - 1))] ++ [(x, y)], by omega, by go_num, (by show _ = _; rw [HST.out, HR.out]; simp), (by simp; omega : (out ++ [(x, (lo - 1))] ++ [(x, y)]).length ≤ 2 * (k + 1)), HO9.out, HB9.out, by simp⟩
              case measure => simp [intOf]; omega
          · have HR := Lib.hid (show remOne lo hi (x, y) = [(x, (lo - 1))] ++ [] by unfold remOne; rw [if_pos c1, if_neg c2]; simp only [HMIN.out])
            go_wp2_with fail
            go_roundw
            case rel => exact ⟨k + 1, out ++ [(x, (lo - 1))], by omega, by go_num, (by show _ = _; rw [HST.out, HR.out]; simp), (by simp; omega : (out ++ [(x, (lo - 1))]).length ≤ 2 * (k + 1)), own_snoc HO1.out, HB1.out, by simp⟩
            case measure => simp [intOf]; omega
        · have hmin : min y (lo - 1) = y := by omega
          have hmf : (lo - 1 < y) = False := eq_false hm
          have HMIN := Lib.hid hmin
          clear hmin
          go_wp2_with fail
          go_region_held3 (fun w' => w'.cell? ⟨g, o + k * 2, none⟩ = some (.int .i64 x) ∧ w'.cell? ⟨g, o + k * 2 + 1, none⟩ = some (.int .i64 y))
            (first
              | go_keep
              | (go_split_ands
                 refine ⟨?_, ?_⟩
                 · (rw [hgrow1.cell_far _ (by simp; omega) (Ne.symm hfar)]; assumption)
                 · (rw [hgrow1.cell_far _ (by simp; omega) (Ne.symm hfar)]; assumption)))
            ((refine step_append_lies _ (by rfl) _ _ _ (by rfl) w.heap.size 49 i0 _ 2 16 Try.underlying23 HI.out hz0 hz1 hz2 rfl (by omega) _ out.length (rcells out) (by rfl) ((World.ownsRow.alloc HO.out _).drew)
                ⟨wr.heap.size, 0, none⟩ 1 1 [.int .i64 x, .int .i64 y] (by rfl) (by rfl) (World.news_of_block (cs := #[.int .i64 x, .int .i64 y]) (t := 49) (fr := (0, 0)) (heap_alloc_new wr _)) (by simp [Value.oneCell'])
                (by omega) (by unfold maxLen; omega) (by omega) (by simp; omega) (wr.heap.size + 1) (by simp) ?_; intro gg1 cap1 wa1 hown1 hgrow1 hat1 hlt1))
          have HB1 := Lib.hid (below_app HB.out HO.out hgrow1)
          have HO1 := Lib.hid hown1
          have hfar1 := raw_far hown1 hgl
          have hbs1 := HB1.out.size
          have e1 := (HB1.out.cell (World.block_lt_of_cell? w _ E1.out)).trans E1.out
          have e2 := (HB1.out.cell (World.block_lt_of_cell? w _ E2.out)).trans E2.out
          clear hown1 hgrow1 hat1 hlt1
          by_cases c2 : hi < y
          · by_cases hM : x < hi + 1
            · have hmax : max x (hi + 1) = (hi + 1) := by omega
              have HR := Lib.hid (show remOne lo hi (x, y) = [(x, y)] ++ [((hi + 1), y)] by unfold remOne; rw [if_pos c1, if_pos c2]; simp only [hmax, HMIN.out])
              clear hmax
              go_wp2_with fail
              go_region_held3 (fun w' => w'.cell? ⟨g, o + k * 2, none⟩ = some (.int .i64 x) ∧ w'.cell? ⟨g, o + k * 2 + 1, none⟩ = some (.int .i64 y))
                (first
                  | go_keep
                  | (go_split_ands
                     refine ⟨?_, ?_⟩
                     · (rw [hgrow2.cell_far _ (by simp; omega) (Ne.symm hfar1)]; assumption)
                     · (rw [hgrow2.cell_far _ (by simp; omega) (Ne.symm hfar1)]; assumption)))
                ((refine step_append_lies _ (by rfl) _ _ _ (by rfl) w.heap.size 49 i0 _ 2 16 Try.underlying23 HI.out hz0 hz1 hz2 rfl (by omega) _ (out.length + 1) (rcells out ++ [.int .i64 x, .int .i64 y]) (by rfl) ((World.ownsRow.alloc HO1.out _).drew)
                    ⟨wa1.heap.size, 0, none⟩ 1 1 [.int .i64 (hi + 1), .int .i64 y] (by rfl) (by rfl) (World.news_of_block (cs := #[.int .i64 (hi + 1), .int .i64 y]) (t := 49) (fr := (0, 0)) (heap_alloc_new wa1 _)) (by simp [Value.oneCell'])
                    (by omega) (by unfold maxLen; omega) (by omega) (by simp; omega) (wa1.heap.size + 1) (by simp) ?_; intro gg2 cap2 wa2 hown2 hgrow2 hat2 hlt2))
              have HB9 := Lib.hid (below_app1 HB1.out HO1.out hgrow2)
              have HO9 := Lib.hid (own_snoc2 hown2)
              clear hown2 hgrow2 hat2 hlt2
              go_wp2_with fail
              go_roundw
              case rel => exact ⟨k + 1, out ++ [(x, y)] ++ [((hi + 1), y)], by omega, by go_num, (by show _ = _; rw [HST.out, HR.out]; simp), (by simp; omega : (out ++ [(x, y)] ++ [((hi + 1), y)]).length ≤ 2 * (k + 1)), HO9.out, HB9.out, by simp⟩
              case measure => simp [intOf]; omega
            · have hmax : max x (hi + 1) = x := by omega
              have hMf : (x < hi + 1) = False := eq_false hM
              have HR := Lib.hid (show remOne lo hi (x, y) = [(x, y)] ++ [(x, y)] by unfold remOne; rw [if_pos c1, if_pos c2]; simp only [hmax, HMIN.out])
              clear hmax
              go_wp2_with fail
              go_region_held3 (fun w' => w'.cell? ⟨g, o + k * 2, none⟩ = some (.int .i64 x) ∧ w'.cell? ⟨g, o + k * 2 + 1, none⟩ = some (.int .i64 y))
                (first
                  | go_keep
                  | (go_split_ands
                     refine ⟨?_, ?_⟩
                     · (rw [hgrow2.cell_far _ (by simp; omega) (Ne.symm hfar1)]; assumption)
                     · (rw [hgrow2.cell_far _ (by simp; omega) (Ne.symm hfar1)]; assumption)))
                ((refine step_append_lies _ (by rfl) _ _ _ (by rfl) w.heap.size 49 i0 _ 2 16 Try.underlying23 HI.out hz0 hz1 hz2 rfl (by omega) _ (out.length + 1) (rcells out ++ [.int .i64 x, .int .i64 y]) (by rfl) ((World.ownsRow.alloc HO1.out _).drew)
                    ⟨wa1.heap.size, 0, none⟩ 1 1 [.int .i64 x, .int .i64 y] (by rfl) (by rfl) (World.news_of_block (cs := #[.int .i64 x, .int .i64 y]) (t := 49) (fr := (0, 0)) (heap_alloc_new wa1 _)) (by simp [Value.oneCell'])
                    (by omega) (by unfold maxLen; omega) (by omega) (by simp; omega) (wa1.heap.size + 1) (by simp) ?_; intro gg2 cap2 wa2 hown2 hgrow2 hat2 hlt2))
              have HB9 := Lib.hid (below_app1 HB1.out HO1.out hgrow2)
              have HO9 := Lib.hid (own_snoc2 hown2)
              clear hown2 hgrow2 hat2 hlt2
              go_wp2_with fail
              go_roundw
              case rel => exact ⟨k + 1, out ++ [(x, y)] ++ [(x, y)], by omega, by go_num, (by show _ = _; rw [HST.out, HR.out]; simp), (by simp; omega : (out ++ [(x, y)] ++ [(x, y)]).length ≤ 2 * (k + 1)), HO9.out, HB9.out, by simp⟩
              case measure => simp [intOf]; omega
          · have HR := Lib.hid (show remOne lo hi (x, y) = [(x, y)] ++ [] by unfold remOne; rw [if_pos c1, if_neg c2]; simp only [HMIN.out])
            go_wp2_with fail
            go_roundw
            case rel => exact ⟨k + 1, out ++ [(x, y)], by omega, by go_num, (by show _ = _; rw [HST.out, HR.out]; simp), (by simp; omega : (out ++ [(x, y)]).length ≤ 2 * (k + 1)), own_snoc HO1.out, HB1.out, by simp⟩
            case measure => simp [intOf]; omega
      · by_cases c2 : hi < y
        · by_cases hM : x < hi + 1
          · have hmax : max x (hi + 1) = (hi + 1) := by omega
            have HR := Lib.hid (show remOne lo hi (x, y) = [] ++ [((hi + 1), y)] by unfold remOne; rw [if_neg c1, if_pos c2]; simp only [hmax])
            clear hmax
            go_wp2_with fail
            go_region_held3 (fun w' => w'.cell? ⟨g, o + k * 2, none⟩ = some (.int .i64 x) ∧ w'.cell? ⟨g, o + k * 2 + 1, none⟩ = some (.int .i64 y))
              (first
                | go_keep
                | (go_split_ands
                   refine ⟨?_, ?_⟩
                   · (rw [hgrow2.cell_far _ (by simp; omega) (Ne.symm hfar)]; assumption)
                   · (rw [hgrow2.cell_far _ (by simp; omega) (Ne.symm hfar)]; assumption)))
              ((refine step_append_lies _ (by rfl) _ _ _ (by rfl) w.heap.size 49 i0 _ 2 16 Try.underlying23 HI.out hz0 hz1 hz2 rfl (by omega) _ out.length (rcells out) (by rfl) ((World.ownsRow.alloc HO.out _).drew)
                  ⟨wr.heap.size, 0, none⟩ 1 1 [.int .i64 (hi + 1), .int .i64 y] (by rfl) (by rfl) (World.news_of_block (cs := #[.int .i64 (hi + 1), .int .i64 y]) (t := 49) (fr := (0, 0)) (heap_alloc_new wr _)) (by simp [Value.oneCell'])
                  (by omega) (by unfold maxLen; omega) (by omega) (by simp; omega) (wr.heap.size + 1) (by simp) ?_; intro gg2 cap2 wa2 hown2 hgrow2 hat2 hlt2))
            have HB9 := Lib.hid (below_app1 HB.out HO.out hgrow2)
            have HO9 := Lib.hid (own_snoc hown2)
            clear hown2 hgrow2 hat2 hlt2
            go_wp2_with fail
            go_roundw
            case rel => exact ⟨k + 1, out ++ [((hi + 1), y)], by omega, by go_num, (by show _ = _; rw [HST.out, HR.out]; simp), (by simp; omega : (out ++ [((hi + 1), y)]).length ≤ 2 * (k + 1)), HO9.out, HB9.out, by simp⟩
            case measure => simp [intOf]; omega
          · have hmax : max x (hi + 1) = x := by omega
            have hMf : (x < hi + 1) = False := eq_false hM
            have HR := Lib.hid (show remOne lo hi (x, y) = [] ++ [(x, y)] by unfold remOne; rw [if_neg c1, if_pos c2]; simp only [hmax])
            clear hmax
            go_wp2_with fail
            go_region_held3 (fun w' => w'.cell? ⟨g, o + k * 2, none⟩ = some (.int .i64 x) ∧ w'.cell? ⟨g, o + k * 2 + 1, none⟩ = some (.int .i64 y))
              (first
                | go_keep
                | (go_split_ands
                   refine ⟨?_, ?_⟩
                   · (rw [hgrow2.cell_far _ (by simp; omega) (Ne.symm hfar)]; assumption)
                   · (rw [hgrow2.cell_far _ (by simp; omega) (Ne.symm hfar)]; assumption)))
              ((refine step_append_lies _ (by rfl) _ _ _ (by rfl) w.heap.size 49 i0 _ 2 16 Try.underlying23 HI.out hz0 hz1 hz2 rfl (by omega) _ out.length (rcells out) (by rfl) ((World.ownsRow.alloc HO.out _).drew)
                  ⟨wr.heap.size, 0, none⟩ 1 1 [.int .i64 x, .int .i64 y] (by rfl) (by rfl) (World.news_of_block (cs := #[.int .i64 x, .int .i64 y]) (t := 49) (fr := (0, 0)) (heap_alloc_new wr _)) (by simp [Value.oneCell'])
                  (by omega) (by unfold maxLen; omega) (by omega) (by simp; omega) (wr.heap.size + 1) (by simp) ?_; intro gg2 cap2 wa2 hown2 hgrow2 hat2 hlt2))
            have HB9 := Lib.hid (below_app1 HB.out HO.out hgrow2)
            have HO9 := Lib.hid (own_snoc hown2)
            clear hown2 hgrow2 hat2 hlt2
            go_wp2_with fail
            go_roundw
            case rel => exact ⟨k + 1, out ++ [(x, y)], by omega, by go_num, (by show _ = _; rw [HST.out, HR.out]; simp), (by simp; omega : (out ++ [(x, y)]).length ≤ 2 * (k + 1)), HO9.out, HB9.out, by simp⟩
            case measure => simp [intOf]; omega
        · have HR := Lib.hid (show remOne lo hi (x, y) = [] ++ [] by unfold remOne; rw [if_neg c1, if_neg c2])
          go_wp2_with fail
          go_roundw
          case rel => exact ⟨k + 1, out, by omega, by go_num, (by show _ = _; rw [HST.out, HR.out]; simp), (by show _ ≤ _; omega : (out).length ≤ 2 * (k + 1)), HO.out, HB.out, HN.out⟩
          case measure => simp [intOf]; omega
    · have hfin : lrem l lo hi = out := by
        have := HF.out
        rwa [List.take_of_length_le (by omega)] at this
      have HFIN := Lib.hid hfin
      clear hfin
      go_wp2_with fail
      go_ret
      exact ⟨_, rfl, HB.out, by rw [HFIN.out]; exact HO.out, HN.out⟩

end Go.Proofs.Ytcjhbcibhcogjab
