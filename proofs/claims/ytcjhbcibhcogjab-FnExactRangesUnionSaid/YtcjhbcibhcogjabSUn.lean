/- The model's RangesUnion. -/
import Derived.Test.YtcjhbcibhcogjabICat
import Derived.Test.YtcjhbcibhcogjabUnMath
import Derived.StillTailTactics
namespace Go.Proofs.Ytcjhbcibhcogjab
open Go.RowKit
set_option linter.unusedVariables false
set_option linter.unusedSimpArgs false

theorem lunion_take (l m : List (Int × Int)) (k : Nat) (h : k < m.length) {o : List (Int × Int)} (ho : lunion l (m.take k) = o) : lunion l (m.take (k + 1)) = ladd o (m.getD k (0, 0)).1 (m.getD k (0, 0)).2 := by
  rw [take_get m k h, lunion_snoc, ho]
theorem vfrom_bnd2 {l : List (Int × Int)} (h : vfrom 0 l = true) : ∀ r ∈ l, bnd r.1 ∧ bnd r.2 := fun r hr => by
  have := vfrom_els h r hr
  exact ⟨⟨by omega, by omega⟩, ⟨by omega, by omega⟩⟩
theorem sunion_no1 {l m : List (Int × Int)} (h : rvalid l = false) : runionOk l m = false ∧ runion l m = [] := by
  have : runionOk l m = false := by unfold runionOk; rw [h]; rfl
  exact ⟨this, by unfold runion; rw [this]; rfl⟩
theorem sunion_no2 {l m : List (Int × Int)} (h : rvalid m = false) : runionOk l m = false ∧ runion l m = [] := by
  have : runionOk l m = false := by unfold runionOk; rw [h]; simp
  exact ⟨this, by unfold runion; rw [this]; rfl⟩
theorem sunion_yes {l m : List (Int × Int)} (h1 : rvalid l = true) (h2 : rvalid m = true) : runionOk l m = decide ((lunion l m).length ≤ 16) := by unfold runionOk; rw [h1, h2]; rfl

set_option maxRecDepth 100000 in
set_option maxHeartbeats 2000000 in
theorem sunion_any (v u : Value) (l m : List (Int × Int)) (w : World) (hv : Rngs w v l) (hu : Rngs w u m) (hl : l.length ≤ 1048576) (hm : m.length ≤ 1048576) :
    Calls Try.prog 26 #[v, u] w (RgPost w (runion l m) (runionOk l m)) := by
  have HV := Lib.hid hv
  have HU := Lib.hid hu
  obtain ⟨a2, c2, rfl, hu1⟩ := hu
  obtain ⟨a1, c1, rfl, hv1⟩ := hv
  have HC := Lib.hid hu1
  clear hv1 hu1
  go_enter Try.func26, Try.ntmps26
  go_wp2_with fail
  refine (svalid_any _ l w HV.out hl).mono ?_
  rintro e w1 ⟨rfl, hb1⟩
  have B1 := Lib.hid hb1
  have V1 := Lib.hid (HV.out.below hb1)
  have U1 := Lib.hid (HU.out.below hb1)
  clear hb1
  cases h1 : rvalid l with
  | false =>
    have HX := Lib.hid (sunion_no1 (m := m) h1)
    clear h1
    go_wp2_with fail
    go_ret2
    rw [HX.out.1, HX.out.2]
    exact RgPost.none B1.out
  | true =>
    have R1 := Lib.hid h1
    clear h1
    go_wp2_with fail
    refine (svalid_any _ m w1 U1.out hm).mono ?_
    rintro e w2 ⟨rfl, hb2⟩
    have B2 := Lib.hid (B1.out.trans (hb2.mono B1.out.size))
    have V2 := Lib.hid (V1.out.below hb2)
    have U2 := Lib.hid (U1.out.below hb2)
    clear hb2
    cases h2 : rvalid m with
    | false =>
      have HX := Lib.hid (sunion_no2 (l := l) h2)
      clear h2
      go_wp2_with fail
      go_ret2
      rw [HX.out.1, HX.out.2]
      exact RgPost.none B2.out
    | true =>
      have R2 := Lib.hid h2
      have HXX := Lib.hid (sunion_yes R1.out h2)
      have hl16 := (rvalid_parts R1.out).2
      have hm16 := (rvalid_parts h2).2
      clear h2
      go_wp2_with (at_builtin; refine hold ?_)
      refine unhold ?_
      have hal := (Below.refl w2.heap.size w2).alloc (Nat.le_refl _) (.cells #[] 49)
      refine wpList_append_rngs (w := w2.alloc (.cells #[] 49)) rfl (.tmp 17) (.tmp 18) rfl w.heap.size _ _ [] l rfl (own_new 49 2 w.heap.size w2 B2.out.size) rfl (V2.out.below hal) ?Aa ?Ab ?_
      case Aa => simp; omega
      case Ab => have := B2.out.size; simp; omega
      intro v3 w3 ho3 hg3 hn3
      have hb3 : Below w.heap.size w w3 := (B2.out.alloc B2.out.size _).grown hg3 (by have := B2.out.size; simp; omega) (fun j hj => by have := B2.out.size; injection hj with hj; simp at hj; omega)
      have B3 := Lib.hid hb3
      have O3 := Lib.hid ho3
      have N3 := Lib.hid (hn3 (show Value.slice (some ⟨w2.heap.size, 0, none⟩) 0 0 ≠ .slice none 0 0 by simp))
      clear ho3 hg3 hn3 hb3 hal
      go_wp2_with fail
      go_loopw [6, 7] (fun ov iv wr => ∃ (k : Nat) (out : List (Int × Int)), k ≤ m.length ∧ iv = .int .i64 k ∧ Hid (lunion l (m.take k) = out) ∧ Hid (vfrom 0 out = true ∧ out.length ≤ 16 + k) ∧ OwnRg wr w.heap.size ov out ∧ Below w.heap.size w wr ∧ ov ≠ .slice none 0 0) (fun _ iv _ => m.length - (intOf iv).toNat)
      case atStart => exact ⟨0, l, Nat.zero_le _, rfl, rfl, ⟨(rvalid_parts R1.out).1, (rvalid_parts R1.out).2⟩, O3.out, B3.out, N3.out⟩
      case round =>
        obtain ⟨k, out, hk, rfl, HF, HP, hown, hbel, hnn⟩ := hrel
        have HB := Lib.hid hbel
        have HO := Lib.hid hown
        have HN := Lib.hid hnn
        have hol := HP.out.2
        clear hbel hown hnn
        by_cases hlt : k < m.length
        · obtain ⟨g, o, rfl, hc⟩ := HC.out (by rintro rfl; simp at hlt)
          have b1 : (k : Int) < (m.length : Int) := by omega
          obtain ⟨e1, e2⟩ := hc k hlt
          have e1 := (HB.out.cell (World.block_lt_of_cell? w _ e1)).trans e1
          have e2 := (HB.out.cell (World.block_lt_of_cell? w _ e2)).trans e2
          have HST := Lib.hid (lunion_take l m k hlt HF.out)
          have hel := vfrom_els (rvalid_parts R2.out).1 (m.getD k (0, 0)) (by rw [List.getD_eq_getElem?_getD, List.getElem?_eq_getElem hlt]; exact List.getElem_mem hlt)
          clear hc
          generalize (m.getD k (0, 0)).1 = x at e1 HST hel
          generalize (m.getD k (0, 0)).2 = y at e2 HST hel
          obtain ⟨x0, xy, y9⟩ := hel
          go_wp2_with fail
          refine wp_region_still_tail 11 (by kernel_rfl) (by kernel_rfl) ?_
          obtain ⟨W, hW⟩ : ∃ W, ({ wr with drawn := wr.drawn + 1 } : World) = W := ⟨_, rfl⟩
          have f1 : W.cell? ⟨g, o + k * 2, none⟩ = some (.int .i64 x) := by rw [← hW]; exact e1
          have f2 : W.cell? ⟨g, o + k * 2 + 1, none⟩ = some (.int .i64 y) := by rw [← hW]; exact e2
          have HBW := Lib.hid (show Below w.heap.size w W by rw [← hW]; exact below_drewN' HB.out 1)
          have HOW := Lib.hid (show OwnRg W w.heap.size _ out by rw [← hW]; exact HO.out)
          rw [hW]
          clear hW e1 e2
          simp only [List.take_succ_cons, List.take_zero, List.drop_succ_cons, List.drop_zero]
          iterate 11 still_step
          refine wpStill_nil ?_
          go_wp2_with fail
          refine (sadd_any _ out x y W (Rngs.of_own HOW.out) (by omega) ⟨by omega, by omega⟩ ⟨by omega, by omega⟩ (vfrom_bnd2 HP.out.1)).mono ?_
          rintro e w5 ⟨v5, rfl, hb5, ho5, hn5⟩
          have B5 := Lib.hid (HBW.out.trans (hb5.mono HBW.out.size))
          have O5 := Lib.hid (ho5.lower HBW.out.size)
          have N5 := Lib.hid hn5
          have PR := Lib.hid (ladd_props HP.out.1 x0 xy y9)
          clear hb5 ho5 hn5
          go_wp2_with fail
          go_roundw
          case rel => exact ⟨k + 1, _, by omega, by go_num, HST.out, ⟨PR.out.1, by have := PR.out.2.1; omega⟩, O5.out, B5.out, N5.out⟩
          case measure => simp [intOf]; omega
        · have hfin : lunion l m = out := by
            have := HF.out
            rwa [List.take_of_length_le (by omega)] at this
          have HFIN := Lib.hid hfin
          obtain ⟨la, lc, rfl⟩ := ownsRow_shape HO.out
          clear hfin
          by_cases h16 : 16 < out.length
          · have h16' : (16 : Int) < (out.length : Int) := by omega
            have HX := Lib.hid (show runionOk l m = false by rw [HXX.out, HFIN.out]; exact decide_eq_false (by omega))
            have HY := Lib.hid (show runion l m = [] by unfold runion; rw [HX.out]; rfl)
            go_wp2_with fail
            go_ret2
            rw [HX.out, HY.out]
            exact RgPost.none HB.out
          · have h16' : ¬ (16 : Int) < (out.length : Int) := by omega
            have HX := Lib.hid (show runionOk l m = true by rw [HXX.out, HFIN.out]; exact decide_eq_true (by omega))
            have HY := Lib.hid (show runion l m = out by unfold runion; rw [HX.out, HFIN.out]; rfl)
            go_wp2_with fail
            go_ret2
            rw [HX.out, HY.out]
            exact ⟨_, rfl, HB.out, HO.out, HN.out⟩

end Go.Proofs.Ytcjhbcibhcogjab
