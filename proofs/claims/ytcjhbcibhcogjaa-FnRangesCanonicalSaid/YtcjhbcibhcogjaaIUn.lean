/- The program's RangesUnion. -/
import Derived.Test.YtcjhbcibhcogjaaISort
import Derived.Test.YtcjhbcibhcogjaaICat
import Derived.Test.YtcjhbcibhcogjaaIMerge
import Derived.Test.YtcjhbcibhcogjaaIVal
namespace Go.Proofs.Ytcjhbcibhcogjaa
open Go.RowKit
set_option linter.unusedVariables false
set_option linter.unusedSimpArgs false

theorem bnd_of_valid {l : List (Int × Int)} (h : vfrom 0 l = true) : Bnd l := fun r hr => by
  have := vfrom_els h r hr
  exact ⟨⟨by omega, by omega⟩, ⟨by omega, by omega⟩⟩
theorem bnd_union {l m s : List (Int × Int)} (h1 : vfrom 0 l = true) (h2 : vfrom 0 m = true) (hp : s.Perm (l ++ m)) : Bnd s := fun r hr => by
  rcases List.mem_append.1 (hp.mem_iff.1 hr) with k | k
  · exact bnd_of_valid h1 r k
  · exact bnd_of_valid h2 r k
theorem runionOk_no1 {l m : List (Int × Int)} (h : rvalid l = false) : runionOk l m = false ∧ runion l m = [] := by
  have : runionOk l m = false := by unfold runionOk; rw [h]; rfl
  exact ⟨this, by unfold runion; rw [this]; rfl⟩
theorem runionOk_no2 {l m : List (Int × Int)} (h : rvalid m = false) : runionOk l m = false ∧ runion l m = [] := by
  have : runionOk l m = false := by unfold runionOk; rw [h]; simp
  exact ⟨this, by unfold runion; rw [this]; rfl⟩
theorem runion_yes {l m s : List (Int × Int)} (h1 : rvalid l = true) (h2 : rvalid m = true) (he : lmerge s = lunion l m) : decide ((lmerge s).length ≤ 16) = runionOk l m ∧ (if (lmerge s).length ≤ 16 then lmerge s else []) = runion l m := by
  have : runionOk l m = decide ((lunion l m).length ≤ 16) := by unfold runionOk; rw [h1, h2]; rfl
  rw [he]
  refine ⟨this.symm, ?_⟩
  unfold runion
  rw [this]
  by_cases h : (lunion l m).length ≤ 16
  · rw [if_pos h, decide_eq_true h]; rfl
  · rw [if_neg h, decide_eq_false h]; rfl

set_option maxRecDepth 100000 in
set_option maxHeartbeats 1000000 in
theorem iunion_any (v u : Value) (l m : List (Int × Int)) (w : World) (hv : Rngs w v l) (hu : Rngs w u m) (hl : l.length ≤ 1048576) (hm : m.length ≤ 1048576) :
    Calls Try.prog 26 #[v, u] w (RgPost w (runion l m) (runionOk l m)) := by
  obtain ⟨a1, c1, rfl, hv1⟩ := id hv
  obtain ⟨a2, c2, rfl, hu1⟩ := id hu
  clear hv1 hu1
  have HV := Lib.hid hv
  have HU := Lib.hid hu
  clear hv hu
  go_enter Try.func26, Try.ntmps26
  go_wp2_with fail
  refine (ivalid_any (.slice a1 l.length c1) l w HV.out hl).mono ?_
  rintro e w1 ⟨rfl, hb1⟩
  have B1 := Lib.hid hb1
  have V1 := Lib.hid (HV.out.below hb1)
  have U1 := Lib.hid (HU.out.below hb1)
  clear hb1
  cases h1 : rvalid l with
  | false =>
    have HX := Lib.hid (runionOk_no1 (m := m) h1)
    clear h1
    go_wp2_with fail
    go_ret2
    rw [HX.out.1, HX.out.2]
    exact RgPost.none B1.out
  | true =>
    have R1 := Lib.hid h1
    clear h1
    go_wp2_with fail
    refine (ivalid_any (.slice a2 m.length c2) m w1 U1.out hm).mono ?_
    rintro e w2 ⟨rfl, hb2⟩
    have B2 := Lib.hid (B1.out.trans (hb2.mono B1.out.size))
    have V2 := Lib.hid (V1.out.below hb2)
    have U2 := Lib.hid (U1.out.below hb2)
    clear hb2
    cases h2 : rvalid m with
    | false =>
      have HX := Lib.hid (runionOk_no2 (l := l) h2)
      clear h2
      go_wp2_with fail
      go_ret2
      rw [HX.out.1, HX.out.2]
      exact RgPost.none B2.out
    | true =>
      have R2 := Lib.hid h2
      clear h2
      go_wp2_with fail
      have hal := (Below.refl w2.heap.size w2).alloc (Nat.le_refl _) (.cells #[(.slice a1 l.length c1), (.slice a2 m.length c2)] 23)
      refine (concat_any w2.heap.size (.slice a1 l.length c1) (.slice a2 m.length c2) l m _ (cell_two_new w2 (.slice a1 l.length c1) (.slice a2 m.length c2) 23 0 _ rfl) (cell_two_new w2 (.slice a1 l.length c1) (.slice a2 m.length c2) 23 1 _ rfl) (V2.out.below hal) (U2.out.below hal) hl hm).mono ?_
      rintro e w3 ⟨v3, rfl, hb3, ho3⟩
      have B2a := B2.out.trans (hal.mono B2.out.size)
      have B3 := Lib.hid (B2a.trans (hb3.mono B2a.size))
      have O3 := Lib.hid (ho3.lower B2a.size)
      clear hal hb3 ho3 B2a
      go_wp2_with fail
      refine (sort_any v3 (l ++ m) w3 w.heap.size O3.out B3.out.size (by rw [List.length_append]; have := (rvalid_parts R1.out).2; have := (rvalid_parts R2.out).2; omega)).mono ?_
      rintro e w4 ⟨rfl, hb4, s, hp, hs, hr4⟩
      have B4 := Lib.hid (B3.out.trans hb4)
      have R4 := Lib.hid hr4
      have hsl : s.length ≤ 1048576 := by
        have := hp.length_eq
        rw [List.length_append] at this
        have := (rvalid_parts R1.out).2; have := (rvalid_parts R2.out).2
        omega
      have SB := Lib.hid (bnd_union (rvalid_parts R1.out).1 (rvalid_parts R2.out).1 hp)
      have EQ := Lib.hid (runion_yes R1.out R2.out (merge_union l m s (rvalid_parts R1.out).1 (rvalid_parts R2.out).1 hp hs))
      clear hb4 hr4 hp hs
      go_wp2_with fail
      refine (merge_any v3 s w4 R4.out hsl SB.out).mono ?_
      rintro e w5 ⟨v5, rfl, hb5, ho5, hn5⟩
      have B5 := Lib.hid (B4.out.trans (hb5.mono B4.out.size))
      have O5 := Lib.hid (ho5.lower B4.out.size)
      have N5 := Lib.hid hn5
      have hml := lmerge_len s
      clear hb5 ho5 hn5
      go_wp2_with fail
      refine (limit_any v5 (lmerge s) w5 w.heap.size O5.out N5.out B5.out.size (by omega)).mono ?_
      rintro e w6 ⟨v6, rfl, hb6, ho6, hn6⟩
      rw [EQ.out.1]
      rw [EQ.out.2] at ho6
      have B6 := Lib.hid (B5.out.trans (hb6.mono B5.out.size))
      have O6 := Lib.hid ho6
      have N6 := Lib.hid hn6
      clear hb6 ho6 hn6
      go_wp2_with fail
      go_ret2
      exact ⟨_, rfl, B6.out, O6.out, N6.out⟩

end Go.Proofs.Ytcjhbcibhcogjaa
