/- The exact laws of chapter 21: toRtt, eqRtt, the walks. -/
import Derived.Test.YtlhjhdlpejpooabRtQ
namespace Go.Proofs.Ytlhjhdlpejpooab
open Go.RowKit
set_option linter.unusedVariables false
set_option linter.unusedSimpArgs false

set_option maxRecDepth 100000 in
set_option maxHeartbeats 1000000 in
theorem tort_any (x y z t : Int) (w : World) : Calls Try.prog 28 #[.agg #[.int .i64 x, .int .i64 y, .int .i64 z, .int .i64 t]] w fun e w' => e = .returned (.agg #[.int .i64 x, .int .i64 y, .int .i64 z, .int .i64 t]) ∧ Below w.heap.size w w' := by
  go_enter Try.func28, Try.ntmps28
  go_wp2_with fail
  refine bodyPost_ret (v := .agg #[.int .i64 x, .int .i64 y, .int .i64 z, .int .i64 t]) ?hr rfl ?_
  case hr => rw [results_cell_one rfl]; go_simp
  exact ⟨rfl, (((Below.refl _ _).alloc (Nat.le_refl _) _).alloc (by simp) _).alloc (by simp; omega) _⟩

set_option maxRecDepth 100000 in
set_option maxHeartbeats 1000000 in
theorem eqrt_any (x y z t : Int) (w : World) : Calls Try.prog 32 #[.agg #[.int .i64 x, .int .i64 y, .int .i64 z, .int .i64 t], .agg #[.int .i64 x, .int .i64 y, .int .i64 z, .int .i64 t]] w fun e w' => e = .returned (.bool true) ∧ Below w.heap.size w w' := by
  go_enter Try.func32, Try.ntmps32
  go_wp2_with fail
  go_ret
  exact ⟨rfl, ((Below.refl _ _).alloc (Nat.le_refl _) _).alloc (by simp) _⟩

/- walks -/

set_option maxRecDepth 100000 in
set_option maxHeartbeats 2000000 in
theorem exrv_walk (x y z t : Int) (w : World) (hz : -9223372036854775808 ≤ z ∧ z ≤ 9223372036854775807) : Calls Try.prog 6 #[.agg #[.int .i64 x, .int .i64 y, .int .i64 z, .int .i64 t]] w fun e w' => e = .returned (.bool true) ∧ Below w.heap.size w w' := by
  have P1 := Lib.hid (R4.new w x y z t 51)
  have B1 : Hid (Below w.heap.size w (w.alloc (.cells #[.int .i64 x, .int .i64 y, .int .i64 z, .int .i64 t] 51))) := Lib.hid ((Below.refl _ _).alloc (Nat.le_refl _) _)
  have HC := Lib.hid hz
  clear hz
  obtain ⟨q, hq⟩ : ∃ q, decide (rok x y z t) = q := ⟨_, rfl⟩
  have HQ := Lib.hid hq
  clear hq
  go_enter Try.func6, Try.ntmps6
  obtain ⟨c0, c1, c2, c3, fz⟩ := id P1.out
  go_wp2_with fail
  refine (tort_any x y z t _).mono ?_
  rintro e w2 ⟨rfl, hb2⟩
  have P2 := Lib.hid (P1.out.below hb2 P1.out.lt)
  have B2 := Lib.hid (B1.out.trans (hb2.mono B1.out.size))
  clear hb2 c0 c1 c2 c3 fz
  obtain ⟨c0, c1, c2, c3, fz⟩ := id P2.out
  go_wp2_with fail
  refine (svalid_any x y z t _).mono ?_
  rw [HQ.out]
  rintro e w3 ⟨rfl, hb3⟩
  have P3 := Lib.hid (P2.out.below hb3 P2.out.lt)
  have B3 := Lib.hid (B2.out.trans (hb3.mono B2.out.size))
  clear hb3 c0 c1 c2 c3 fz
  obtain ⟨c0, c1, c2, c3, fz⟩ := id P3.out
  go_wp2_with fail
  refine (tort_any x y z t _).mono ?_
  rintro e w4 ⟨rfl, hb4⟩
  have P4 := Lib.hid (P3.out.below hb4 P3.out.lt)
  have B4 := Lib.hid (B3.out.trans (hb4.mono B3.out.size))
  clear hb4 c0 c1 c2 c3 fz
  obtain ⟨c0, c1, c2, c3, fz⟩ := id P4.out
  go_wp2_with fail
  refine (ivalid_any x y z t _ HC.out).mono ?_
  rw [HQ.out]
  rintro e w5 ⟨rfl, hb5⟩
  have P5 := Lib.hid (P4.out.below hb5 P4.out.lt)
  have B5 := Lib.hid (B4.out.trans (hb5.mono B4.out.size))
  clear hb5 c0 c1 c2 c3 fz
  cases q
  all_goals
    go_wp2_with fail
    go_ret
    exact ⟨by simp, B5.out⟩

set_option maxRecDepth 100000 in
set_option maxHeartbeats 2000000 in
theorem exrl_walk (x y z t : Int) (w : World) (hz : -9223372036854775808 ≤ z ∧ z ≤ 9223372036854775807) : Calls Try.prog 9 #[.agg #[.int .i64 x, .int .i64 y, .int .i64 z, .int .i64 t]] w fun e w' => e = .returned (.bool true) ∧ Below w.heap.size w w' := by
  have P1 := Lib.hid (R4.new w x y z t 51)
  have B1 : Hid (Below w.heap.size w (w.alloc (.cells #[.int .i64 x, .int .i64 y, .int .i64 z, .int .i64 t] 51))) := Lib.hid ((Below.refl _ _).alloc (Nat.le_refl _) _)
  have HC := Lib.hid hz
  clear hz
  obtain ⟨q, hq⟩ : ∃ q, lossd x y z t = q := ⟨_, rfl⟩
  have HQ := Lib.hid hq
  clear hq
  go_enter Try.func9, Try.ntmps9
  obtain ⟨c0, c1, c2, c3, fz⟩ := id P1.out
  go_wp2_with fail
  refine (tort_any x y z t _).mono ?_
  rintro e w2 ⟨rfl, hb2⟩
  have P2 := Lib.hid (P1.out.below hb2 P1.out.lt)
  have B2 := Lib.hid (B1.out.trans (hb2.mono B1.out.size))
  clear hb2 c0 c1 c2 c3 fz
  obtain ⟨c0, c1, c2, c3, fz⟩ := id P2.out
  go_wp2_with fail
  refine (sld_any x y z t _).mono ?_
  rw [HQ.out]
  rintro e w3 ⟨rfl, hb3⟩
  have P3 := Lib.hid (P2.out.below hb3 P2.out.lt)
  have B3 := Lib.hid (B2.out.trans (hb3.mono B2.out.size))
  clear hb3 c0 c1 c2 c3 fz
  obtain ⟨c0, c1, c2, c3, fz⟩ := id P3.out
  go_wp2_with fail
  refine (tort_any x y z t _).mono ?_
  rintro e w4 ⟨rfl, hb4⟩
  have P4 := Lib.hid (P3.out.below hb4 P3.out.lt)
  have B4 := Lib.hid (B3.out.trans (hb4.mono B3.out.size))
  clear hb4 c0 c1 c2 c3 fz
  obtain ⟨c0, c1, c2, c3, fz⟩ := id P4.out
  go_wp2_with fail
  refine (ild_any x y z t _ HC.out).mono ?_
  rw [HQ.out]
  rintro e w5 ⟨rfl, hb5⟩
  have P5 := Lib.hid (P4.out.below hb5 P4.out.lt)
  have B5 := Lib.hid (B4.out.trans (hb5.mono B4.out.size))
  clear hb5 c0 c1 c2 c3 fz
  go_wp2_with fail
  go_ret
  exact ⟨by simp, B5.out⟩

set_option maxRecDepth 100000 in
set_option maxHeartbeats 2000000 in
theorem exrp_walk (x y z t k : Int) (w : World) (hz : -9223372036854775808 ≤ z ∧ z ≤ 9223372036854775807) : Calls Try.prog 8 #[.agg #[.int .i64 x, .int .i64 y, .int .i64 z, .int .i64 t], .int .i64 k] w fun e w' => e = .returned (.bool true) ∧ Below w.heap.size w w' := by
  have P1 := Lib.hid (R4.new w x y z t 51)
  have B1 : Hid (Below w.heap.size w (w.alloc (.cells #[.int .i64 x, .int .i64 y, .int .i64 z, .int .i64 t] 51))) := Lib.hid ((Below.refl _ _).alloc (Nat.le_refl _) _)
  have HC := Lib.hid hz
  clear hz
  obtain ⟨q, hq⟩ : ∃ q, probe x y z t k = q := ⟨_, rfl⟩
  have HQ := Lib.hid hq
  clear hq
  go_enter Try.func8, Try.ntmps8
  obtain ⟨c0, c1, c2, c3, fz⟩ := id P1.out
  go_wp2_with fail
  refine (tort_any x y z t _).mono ?_
  rintro e w2 ⟨rfl, hb2⟩
  have P2 := Lib.hid (P1.out.below hb2 P1.out.lt)
  have B2 := Lib.hid (B1.out.trans (hb2.mono B1.out.size))
  clear hb2 c0 c1 c2 c3 fz
  obtain ⟨c0, c1, c2, c3, fz⟩ := id P2.out
  go_wp2_with fail
  refine (spr_any x y z t k _).mono ?_
  rw [HQ.out]
  rintro e w3 ⟨rfl, hb3⟩
  have P3 := Lib.hid (P2.out.below hb3 P2.out.lt)
  have B3 := Lib.hid (B2.out.trans (hb3.mono B2.out.size))
  clear hb3 c0 c1 c2 c3 fz
  obtain ⟨c0, c1, c2, c3, fz⟩ := id P3.out
  go_wp2_with fail
  refine (tort_any x y z t _).mono ?_
  rintro e w4 ⟨rfl, hb4⟩
  have P4 := Lib.hid (P3.out.below hb4 P3.out.lt)
  have B4 := Lib.hid (B3.out.trans (hb4.mono B3.out.size))
  clear hb4 c0 c1 c2 c3 fz
  obtain ⟨c0, c1, c2, c3, fz⟩ := id P4.out
  go_wp2_with fail
  refine (ipr_any x y z t k _ HC.out).mono ?_
  rw [HQ.out]
  rintro e w5 ⟨rfl, hb5⟩
  have P5 := Lib.hid (P4.out.below hb5 P4.out.lt)
  have B5 := Lib.hid (B4.out.trans (hb5.mono B4.out.size))
  clear hb5 c0 c1 c2 c3 fz
  go_wp2_with fail
  go_ret
  exact ⟨by simp, B5.out⟩

set_option maxRecDepth 100000 in
set_option maxHeartbeats 2000000 in
theorem exru_walk (x y z t s u : Int) (w : World) (hz : -9223372036854775808 ≤ z ∧ z ≤ 9223372036854775807) : Calls Try.prog 7 #[.agg #[.int .i64 x, .int .i64 y, .int .i64 z, .int .i64 t], .int .i64 s, .int .i64 u] w fun e w' => e = .returned (.bool true) ∧ Below w.heap.size w w' := by
  have P1 := Lib.hid (R4.new w x y z t 51)
  have B1 : Hid (Below w.heap.size w (w.alloc (.cells #[.int .i64 x, .int .i64 y, .int .i64 z, .int .i64 t] 51))) := Lib.hid ((Below.refl _ _).alloc (Nat.le_refl _) _)
  have HC := Lib.hid hz
  clear hz
  by_cases h : uok x y z t s u
  · obtain ⟨uu, hu⟩ : ∃ q, uL x y s = q := ⟨_, rfl⟩
    obtain ⟨vv, hv⟩ : ∃ q, uC x y z s u = q := ⟨_, rfl⟩
    obtain ⟨xx, hx⟩ : ∃ q, uD x y z t s u = q := ⟨_, rfl⟩
    have SU := Lib.hid (fun W : World => supd_yes x y z t s u W h)
    have IU := Lib.hid (fun W : World => iupd_yes x y z t s u W h)
    unfold UpdYes at SU IU
    rw [hu, hv, hx] at SU IU
    clear hu hv hx h
    go_enter Try.func7, Try.ntmps7
    obtain ⟨c0, c1, c2, c3, fz⟩ := id P1.out
    go_wp2_with fail
    refine (tort_any x y z t _).mono ?_
    rintro e w2 ⟨rfl, hb2⟩
    have P2 := Lib.hid (P1.out.below hb2 P1.out.lt)
    have B2 := Lib.hid (B1.out.trans (hb2.mono B1.out.size))
    clear hb2 c0 c1 c2 c3 fz
    obtain ⟨c0, c1, c2, c3, fz⟩ := id P2.out
    go_wp2_with fail
    refine (SU.out _).mono ?_
    rintro e w3 ⟨rfl, hb3⟩
    have P3 := Lib.hid ((P2.out.below hb3 P2.out.lt).alloc (.cells #[.int .i64 s, .int .i64 uu, .int .i64 vv, .int .i64 xx] 53))
    have X3 := Lib.hid (R4.new w3 s uu vv xx 53)
    have B3 := Lib.hid ((B2.out.trans (hb3.mono B2.out.size)).alloc (B2.out.trans (hb3.mono B2.out.size)).size (.cells #[.int .i64 s, .int .i64 uu, .int .i64 vv, .int .i64 xx] 53))
    clear hb3 c0 c1 c2 c3 fz
    obtain ⟨c0, c1, c2, c3, fz⟩ := id P3.out
    go_wp2_with fail
    refine (tort_any x y z t _).mono ?_
    rintro e w4 ⟨rfl, hb4⟩
    have X4 := Lib.hid (X3.out.below hb4 X3.out.lt)
    have B4 := Lib.hid (B3.out.trans (hb4.mono B3.out.size))
    clear hb4 c0 c1 c2 c3 fz X3
    go_wp2_with fail
    refine (IU.out _).mono ?_
    rintro e w5 ⟨rfl, hb5⟩
    have X5 := Lib.hid ((X4.out.below hb5 X4.out.lt).alloc (.cells #[.int .i64 s, .int .i64 uu, .int .i64 vv, .int .i64 xx] 53))
    have Y5 := Lib.hid (R4.new w5 s uu vv xx 53)
    have B5 := Lib.hid ((B4.out.trans (hb5.mono B4.out.size)).alloc (B4.out.trans (hb5.mono B4.out.size)).size (.cells #[.int .i64 s, .int .i64 uu, .int .i64 vv, .int .i64 xx] 53))
    clear hb5 X4
    obtain ⟨c0, c1, c2, c3, fz⟩ := id X5.out
    obtain ⟨e0, e1, e2, e3, ez⟩ := id Y5.out
    go_wp2_with fail
    refine (eqrt_any s uu vv xx _).mono ?_
    rintro e w6 ⟨rfl, hb6⟩
    have B6 := Lib.hid (B5.out.trans (hb6.mono B5.out.size))
    clear hb6 c0 c1 c2 c3 fz e0 e1 e2 e3 ez
    go_wp2_with fail
    go_ret
    exact ⟨by simp, B6.out⟩
  · have SU := Lib.hid (fun W : World => supd_no x y z t s u W h)
    have IU := Lib.hid (fun W : World => iupd_no x y z t s u W HC.out h)
    unfold UpdNo at SU IU
    clear h
    go_enter Try.func7, Try.ntmps7
    obtain ⟨c0, c1, c2, c3, fz⟩ := id P1.out
    go_wp2_with fail
    refine (tort_any x y z t _).mono ?_
    rintro e w2 ⟨rfl, hb2⟩
    have P2 := Lib.hid (P1.out.below hb2 P1.out.lt)
    have B2 := Lib.hid (B1.out.trans (hb2.mono B1.out.size))
    clear hb2 c0 c1 c2 c3 fz
    obtain ⟨c0, c1, c2, c3, fz⟩ := id P2.out
    go_wp2_with fail
    refine (SU.out _).mono ?_
    rintro e w3 ⟨rfl, hb3⟩
    have P3 := Lib.hid ((P2.out.below hb3 P2.out.lt).alloc (.cells #[.int .i64 0, .int .i64 0, .int .i64 0, .int .i64 0] 53))
    have X3 := Lib.hid (R4.new w3 0 0 0 0 53)
    have B3 := Lib.hid ((B2.out.trans (hb3.mono B2.out.size)).alloc (B2.out.trans (hb3.mono B2.out.size)).size (.cells #[.int .i64 0, .int .i64 0, .int .i64 0, .int .i64 0] 53))
    clear hb3 c0 c1 c2 c3 fz
    obtain ⟨c0, c1, c2, c3, fz⟩ := id P3.out
    go_wp2_with fail
    refine (tort_any x y z t _).mono ?_
    rintro e w4 ⟨rfl, hb4⟩
    have X4 := Lib.hid (X3.out.below hb4 X3.out.lt)
    have B4 := Lib.hid (B3.out.trans (hb4.mono B3.out.size))
    clear hb4 c0 c1 c2 c3 fz X3
    go_wp2_with fail
    refine (IU.out _).mono ?_
    rintro e w5 ⟨rfl, hb5⟩
    have X5 := Lib.hid ((X4.out.below hb5 X4.out.lt).alloc (.cells #[.int .i64 0, .int .i64 0, .int .i64 0, .int .i64 0] 53))
    have Y5 := Lib.hid (R4.new w5 0 0 0 0 53)
    have B5 := Lib.hid ((B4.out.trans (hb5.mono B4.out.size)).alloc (B4.out.trans (hb5.mono B4.out.size)).size (.cells #[.int .i64 0, .int .i64 0, .int .i64 0, .int .i64 0] 53))
    clear hb5 X4
    obtain ⟨c0, c1, c2, c3, fz⟩ := id X5.out
    obtain ⟨e0, e1, e2, e3, ez⟩ := id Y5.out
    go_wp2_with fail
    refine (eqrt_any 0 0 0 0 _).mono ?_
    rintro e w6 ⟨rfl, hb6⟩
    have B6 := Lib.hid (B5.out.trans (hb6.mono B5.out.size))
    clear hb6 c0 c1 c2 c3 fz e0 e1 e2 e3 ez
    go_wp2_with fail
    go_ret
    exact ⟨by simp, B6.out⟩

end Go.Proofs.Ytlhjhdlpejpooab
