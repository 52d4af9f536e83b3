/- The model's RangesGaps. -/
import Derived.Test.YtcjhbcibhcogjabSAdd
import Derived.Test.YtcjhbcibhcogjabUnMath
import Derived.Deep.RegionHeld3
import Derived.StillTactics
import Derived.OwnWalk
import Derived.Laws.Pointers
import Derived.Deep.AppendLies
namespace Go.Proofs.Ytcjhbcibhcogjab
open Go.RowKit
set_option linter.unusedVariables false
set_option linter.unusedSimpArgs false

def GapPost (w : World) (l : List (Int × Int)) (e : Ending) (w' : World) : Prop :=
  ∃ v : Value, e = .returned v ∧ Below w.heap.size w w' ∧ OwnRg w' w.heap.size v l ∧ v ≠ .slice none 0 0
theorem lgaps_one (l : List (Int × Int)) : lgaps (l.take 1) = [] := by
  cases l with
  | nil => rfl
  | cons r t => rfl
theorem rgaps_yes {l : List (Int × Int)} (h : rvalid l = true) : rgaps l = lgaps l := by unfold rgaps; rw [h]; rfl
theorem rgaps_no {l : List (Int × Int)} (h : rvalid l = false) : rgaps l = [] := by unfold rgaps; rw [h]; rfl
theorem gap_far {w : World} {B g : Nat} {v : Value} {l : List (Int × Int)} (h : OwnRg w B v l) (hg : g < B) : v.ownBlock ≠ some g := fun hq => by
  have := (World.ownsRow.lt h g hq).1; omega
theorem gap_below {w wr w1 : World} {v : Value} {l : List (Int × Int)} {o : Obj} (h : Below w.heap.size w wr) (hO : OwnRg wr w.heap.size v l) (hg : ((wr.alloc o).drew).grownBy w1 v.ownBlock) : Below w.heap.size w w1 :=
  ((h.alloc h.size o).drew).grown hg (by have := h.size; simp; omega) (fun k hk => (World.ownsRow.lt hO k hk).1)
theorem own_new_at (w : World) (B n : Nat) (h : B ≤ w.heap.size) : OwnRg ((w.alloc (.cells #[] 49)).drewN n) B (.slice (some ⟨w.heap.size, 0, none⟩) 0 0) [] := own_new _ _ _ _ h

set_option maxRecDepth 100000 in
set_option maxHeartbeats 2000000 in
theorem sgaps_any (v : Value) (l : List (Int × Int)) (w : World) (h : Rngs w v l) (hlen : l.length ≤ 1048576) :
    Calls Try.prog 28 #[v] w (GapPost w (rgaps l)) := by
  obtain ⟨i0, hi0, hz0, hz1, hz2⟩ := info_parts try_infoRange
  have HI := Lib.hid hi0
  have HR := Lib.hid h
  obtain ⟨a, c, rfl, h⟩ := h
  have HC := Lib.hid h
  clear h hi0
  cases h1 : rvalid l with
  | false =>
    have HX := Lib.hid (rgaps_no h1)
    by_cases hlt : 1 < l.length
    · have hlt' : (1 : Int) < (l.length : Int) := by omega
      have hal := (Below.refl w.heap.size w).alloc (Nat.le_refl _) (.cells #[] 49)
      have HS := Lib.hid (svalid_any _ l _ (HR.out.below hal) hlen)
      have HAL := Lib.hid hal
      have H1 := Lib.hid h1
      clear hal h1
      go_enter Try.func28, Try.ntmps28
      go_wp2_with fail
      refine wp_loop_rounds 1 ?_
      rw [rounds_succ]
      go_wp2_with fail
      refine HS.out.mono ?_
      rintro e w1 ⟨rfl, hb1⟩
      rw [H1.out]
      have B1 := Lib.hid (HAL.out.trans (hb1.mono HAL.out.size))
      have O1 := Lib.hid (own_below (own_new 49 2 w.heap.size w (Nat.le_refl _)) hb1)
      clear hb1
      go_wp2_with fail
      go_ret
      exact ⟨_, rfl, B1.out, by rw [HX.out]; exact O1.out, by simp⟩
    · have hlt' : ¬ (1 : Int) < (l.length : Int) := by omega
      have B1 := Lib.hid ((Below.refl w.heap.size w).alloc (Nat.le_refl _) (.cells #[] 49))
      clear h1
      go_enter Try.func28, Try.ntmps28
      go_wp2_with fail
      refine wp_loop_rounds 1 ?_
      rw [rounds_succ]
      go_wp2_with fail
      go_ret
      exact ⟨_, rfl, B1.out, by rw [HX.out]; exact own_new _ _ _ _ (Nat.le_refl _), by simp⟩
  | true =>
    have HX := Lib.hid (rgaps_yes h1)
    have HV := Lib.hid (rvalid_parts h1).1
    have hl16 := (rvalid_parts h1).2
    have H1 := Lib.hid h1
    clear h1
    go_enter Try.func28, Try.ntmps28
    go_wp2_with fail
    go_loopw [3, 4] (fun ov iv wr => ∃ (k : Nat) (out : List (Int × Int)), 1 ≤ k ∧ (k ≤ l.length ∨ k = 1) ∧ iv = .int .i64 k ∧ Hid (lgaps (l.take k) = out) ∧ Hid (out.length ≤ k) ∧ OwnRg wr w.heap.size ov out ∧ Below w.heap.size w wr ∧ ov ≠ .slice none 0 0) (fun _ iv _ => l.length - (intOf iv).toNat)
    case atStart => exact ⟨1, [], Nat.le_refl _, .inr rfl, rfl, lgaps_one l, (by simp : ([] : List (Int × Int)).length ≤ 1), own_new _ _ _ _ (Nat.le_refl _), (Below.refl _ _).alloc (Nat.le_refl _) _, by simp⟩
    case round =>
      obtain ⟨k, out, hk1, hk, rfl, HF, HLN, hown, hbel, hnn⟩ := hrel
      have HB := Lib.hid hbel
      have HO := Lib.hid hown
      have HN := Lib.hid hnn
      have hol := HLN.out
      clear hbel hown hnn
      by_cases hlt : k < l.length
      · obtain ⟨g, o, rfl, hc⟩ := HC.out (by rintro rfl; simp at hlt)
        have b1 : (k : Int) < (l.length : Int) := by omega
        go_wp2_with fail
        refine (svalid_any _ l wr (HR.out.below HB.out) hlen).mono ?_
        rintro e w1 ⟨rfl, hb1⟩
        rw [H1.out]
        have B1 := Lib.hid (HB.out.trans (hb1.mono HB.out.size))
        have O1 := Lib.hid (own_below HO.out hb1)
        clear hb1
        obtain ⟨e1, _⟩ := hc k hlt
        have hgl : g < w.heap.size := World.block_lt_of_cell? w _ e1
        have hbs1 := B1.out.size
        obtain ⟨_, e2⟩ := hc (k - 1) (by omega)
        have e1 := (B1.out.cell (World.block_lt_of_cell? w _ e1)).trans e1
        have e2 := (B1.out.cell (World.block_lt_of_cell? w _ e2)).trans e2
        have HST := Lib.hid (lgaps_take l k (by omega) hlt)
        have hel := vfrom_els HV.out (l.getD k (0, 0)) (by rw [List.getD_eq_getElem?_getD, List.getElem?_eq_getElem hlt]; exact List.getElem_mem hlt)
        have hel2 := vfrom_els HV.out (l.getD (k - 1) (0, 0)) (by rw [List.getD_eq_getElem?_getD, List.getElem?_eq_getElem (show k - 1 < l.length by omega)]; exact List.getElem_mem _)
        clear hc
        have hx1 : 0 ≤ (l.getD k (0, 0)).1 ∧ (l.getD k (0, 0)).1 ≤ 999 := by omega
        have hy1 : 0 ≤ (l.getD (k - 1) (0, 0)).2 ∧ (l.getD (k - 1) (0, 0)).2 ≤ 999 := by omega
        clear hel hel2
        generalize (l.getD k (0, 0)).1 = x at e1 HST hx1
        generalize (l.getD (k - 1) (0, 0)).2 = y at e2 HST hy1
        obtain ⟨x0, x9⟩ := hx1
        obtain ⟨y0, y9⟩ := hy1
        obtain ⟨la, lc, rfl⟩ := ownsRow_shape HO.out
        have t1 : ((k : Int) - 1).toNat = k - 1 := by omega
        have t2 : (k : Int) - 1 < (l.length : Int) := by omega
        have t3 : (0 : Int) ≤ (k : Int) - 1 := by omega
        have t4 : (1 : Int) ≤ (k : Int) := by omega
        have v1 : IntKind.i64.wrap ((k : Int) - 1) = (k : Int) - 1 := IntWalk.i64_in _ (by omega)
        have v2 : IntKind.i64.wrap (y + 1) = y + 1 := IntWalk.i64_in _ (by omega)
        have v3 : IntKind.i64.wrap (x - 1) = x - 1 := IntWalk.i64_in _ (by omega)
        have hfar := gap_far O1.out hgl
        have b0 : (0 : Int) ≤ (k : Int) := by omega
        go_wp2_with fail
        go_region_held3 (fun w' => w'.cell? ⟨g, o + k * 2, none⟩ = some (.int .i64 x) ∧ w'.cell? ⟨g, o + (k - 1) * 2 + 1, none⟩ = some (.int .i64 y))
          (first
            | go_keep
            | (go_split_ands
               refine ⟨?_, ?_⟩
               · (rw [hgrow1.cell_far _ (by simp; omega) (Ne.symm hfar)]; assumption)
               · (rw [hgrow1.cell_far _ (by simp; omega) (Ne.symm hfar)]; assumption)))
          ((refine step_append_lies _ (by rfl) _ _ _ (by rfl) w.heap.size 49 i0 _ 2 16 Try.underlying23 HI.out hz0 hz1 hz2 rfl (by omega) _ out.length (rcells out) (by rfl) ((World.ownsRow.alloc O1.out _).drew)
              ⟨w1.heap.size, 0, none⟩ 1 1 [.int .i64 (y + 1), .int .i64 (x - 1)] (by rfl) (by rfl) (World.news_of_block (cs := #[.int .i64 (y + 1), .int .i64 (x - 1)]) (t := 49) (fr := (0, 0)) (heap_alloc_new w1 _)) (by simp [Value.oneCell'])
              (by omega) (by unfold maxLen; omega) (by omega) (by simp; omega) (w1.heap.size + 1) (by simp) ?_; intro gg1 cap1 wa1 hown1 hgrow1 hat1 hlt1))
        have HB2 := Lib.hid (gap_below B1.out O1.out hgrow1)
        have HO2 := Lib.hid (own_snoc hown1)
        clear hown1 hgrow1 hat1 hlt1
        go_wp2_with fail
        go_roundw
        case rel => exact ⟨k + 1, _, by omega, .inl (by omega), by go_num, HST.out.trans (by rw [HF.out]), (by show _ ≤ _; simp; omega), HO2.out, HB2.out, by simp⟩
        case measure => simp [intOf]; omega
      · have hfin : lgaps l = out := by
          have := HF.out
          rwa [List.take_of_length_le (by omega)] at this
        have HFIN := Lib.hid hfin
        have b1 : ¬ (k : Int) < (l.length : Int) := by omega
        clear hfin
        go_wp2_with fail
        go_ret
        exact ⟨_, rfl, HB.out, by rw [HX.out, HFIN.out]; exact HO.out, HN.out⟩

end Go.Proofs.Ytcjhbcibhcogjab
