/- The laws of RttUpdate: the walks. -/
import Derived.Test.YtlhjhdlpejpooaaDrRs
import Derived.Test.YtlhjhdlpejpooaaRtQ
namespace Go.Proofs.Ytlhjhdlpejpooaa
open Go.RowKit
set_option linter.unusedVariables false
set_option linter.unusedSimpArgs false

theorem rbd_c2 {x y z t : Int} (h : rbd x y z t) : -9223372036854775808 ≤ z ∧ z ≤ 9223372036854775807 := by unfold rbd at h; omega
theorem un_zero {y s : Int} : un y s 0 = s := by unfold un; split <;> omega

set_option maxRecDepth 100000 in
set_option maxHeartbeats 4000000 in
theorem rtva_walk (a : Option Addr) (len cap : Nat) (zs : List Int) (w : World) (h : IsRow .u8 w a len cap zs) :
    Calls Try.prog 3 #[.slice a len cap] w fun e w' => e = .returned (.bool true) ∧ Below w.heap.size w w' := by
  have H := Lib.hid h
  clear h
  by_cases hl : 1048576 < len
  · go_enter Try.func3, Try.ntmps3
    go_wp2
    go_ret
    exact ⟨rfl, Below.refl _ _⟩
  go_enter Try.func3, Try.ntmps3
  go_wp2_with fail
  refine (drawRu_any a len cap zs w H.out).mono ?_
  rintro e w1 ⟨x, y, z, t, s, u, ⟨hbd, hs, hu⟩, rfl, hb1⟩
  have HC := Lib.hid (rbd_c2 hbd)
  have P1 := Lib.hid (R4.new w1 x y z t 24)
  have B1 := Lib.hid (hb1.alloc hb1.size (.cells #[.int .i64 x, .int .i64 y, .int .i64 z, .int .i64 t] 24))
  clear hb1 H
  by_cases hk : uok x y z t s u
  case neg =>
    have IU := Lib.hid (fun W : World => iupd_no x y z t s u W HC.out hk)
    have SU := Lib.hid (fun W : World => supd_no x y z t s u W hk)
    unfold UpdNo at IU SU
    clear hk
    obtain ⟨c0, c1, c2, c3, fz⟩ := id P1.out
    go_wp2_with fail
    refine (IU.out _).mono ?_
    rintro e w2 ⟨rfl, hb2⟩
    have P2 := Lib.hid ((P1.out.below hb2 P1.out.lt).alloc (.cells #[.int .i64 0, .int .i64 0, .int .i64 0, .int .i64 0] 24))
    have Q2 := Lib.hid (R4.new w2 0 0 0 0 24)
    have B2 := Lib.hid ((B1.out.trans (hb2.mono B1.out.size)).alloc (B1.out.trans (hb2.mono B1.out.size)).size (.cells #[.int .i64 0, .int .i64 0, .int .i64 0, .int .i64 0] 24))
    clear hb2 c0 c1 c2 c3 fz
    obtain ⟨c0, c1, c2, c3, fz⟩ := id P2.out
    go_wp2_with fail
    refine (SU.out _).mono ?_
    rintro e w3 ⟨rfl, hb3⟩
    have P3 := Lib.hid ((P2.out.below hb3 P2.out.lt).alloc (.cells #[.int .i64 0, .int .i64 0, .int .i64 0, .int .i64 0] 24))
    have Q3 := Lib.hid ((Q2.out.below hb3 Q2.out.lt).alloc (.cells #[.int .i64 0, .int .i64 0, .int .i64 0, .int .i64 0] 24))
    have N3 := Lib.hid (R4.new w3 0 0 0 0 24)
    have B3 := Lib.hid ((B2.out.trans (hb3.mono B2.out.size)).alloc (B2.out.trans (hb3.mono B2.out.size)).size (.cells #[.int .i64 0, .int .i64 0, .int .i64 0, .int .i64 0] 24))
    clear hb3 c0 c1 c2 c3 fz
    obtain ⟨c0, c1, c2, c3, fz⟩ := id P3.out
    obtain ⟨e0, e1, e2, e3, ez⟩ := id Q3.out
    obtain ⟨g0, g1, g2, g3, gz⟩ := id N3.out
    go_wp2_with fail
    go_ret
    exact ⟨by simp, B3.out⟩
  have HOK := Lib.hid (u_ok hk.1 hk.2.1 hk.2.2)
  obtain ⟨l, hl'⟩ : ∃ l, uL x y s = l := ⟨_, rfl⟩
  obtain ⟨c, hc'⟩ : ∃ c, uC x y z s u = c := ⟨_, rfl⟩
  obtain ⟨d, hd'⟩ : ∃ d, uD x y z t s u = d := ⟨_, rfl⟩
  have IU := Lib.hid (fun W : World => iupd_yes x y z t s u W hk)
  have SU := Lib.hid (fun W : World => supd_yes x y z t s u W hk)
  unfold UpdYes at IU SU
  rw [hl', hc', hd'] at IU SU HOK
  have HL := Lib.hid hl'
  have HCC := Lib.hid hc'
  have HDD := Lib.hid hd'
  have HK := Lib.hid hk
  clear hl' hc' hd'
  clear hk
  have HV1 := Lib.hid (decide_eq_true (show rok s l c d from .inr HOK.out))
  have HV2 := Lib.hid (decide_eq_true HK.out.1)
  have HC2 : Hid (-9223372036854775808 ≤ c ∧ c ≤ 9223372036854775807) := Lib.hid (by have := HOK.out; unfold rs at this; omega)
  obtain ⟨c0, c1, c2, c3, fz⟩ := id P1.out
  go_wp2_with fail
  refine (IU.out _).mono ?_
  rintro e w2 ⟨rfl, hb2⟩
  have P2 := Lib.hid ((P1.out.below hb2 P1.out.lt).alloc (.cells #[.int .i64 s, .int .i64 l, .int .i64 c, .int .i64 d] 24))
  have Q2 := Lib.hid (R4.new w2 s l c d 24)
  have B2 := Lib.hid ((B1.out.trans (hb2.mono B1.out.size)).alloc (B1.out.trans (hb2.mono B1.out.size)).size (.cells #[.int .i64 s, .int .i64 l, .int .i64 c, .int .i64 d] 24))
  clear hb2 c0 c1 c2 c3 fz
  obtain ⟨c0, c1, c2, c3, fz⟩ := id P2.out
  go_wp2_with fail
  refine (SU.out _).mono ?_
  rintro e w3 ⟨rfl, hb3⟩
  have P3 := Lib.hid ((P2.out.below hb3 P2.out.lt).alloc (.cells #[.int .i64 s, .int .i64 l, .int .i64 c, .int .i64 d] 24))
  have Q3 := Lib.hid ((Q2.out.below hb3 Q2.out.lt).alloc (.cells #[.int .i64 s, .int .i64 l, .int .i64 c, .int .i64 d] 24))
  have N3 := Lib.hid (R4.new w3 s l c d 24)
  have B3 := Lib.hid ((B2.out.trans (hb3.mono B2.out.size)).alloc (B2.out.trans (hb3.mono B2.out.size)).size (.cells #[.int .i64 s, .int .i64 l, .int .i64 c, .int .i64 d] 24))
  clear hb3 c0 c1 c2 c3 fz
  obtain ⟨c0, c1, c2, c3, fz⟩ := id P3.out
  obtain ⟨e0, e1, e2, e3, ez⟩ := id Q3.out
  obtain ⟨g0, g1, g2, g3, gz⟩ := id N3.out
  go_wp2_with fail
  refine (ivalid_any s l c d _ HC2.out).mono ?_
  rw [HV1.out]
  rintro e w4 ⟨rfl, hb4⟩
  have P4 := Lib.hid (P3.out.below hb4 P3.out.lt)
  have Q4 := Lib.hid (Q3.out.below hb4 Q3.out.lt)
  have B4 := Lib.hid (B3.out.trans (hb4.mono B3.out.size))
  clear hb4 c0 c1 c2 c3 fz e0 e1 e2 e3 ez g0 g1 g2 g3 gz
  obtain ⟨c0, c1, c2, c3, fz⟩ := id P4.out
  go_wp2_with fail
  refine (ivalid_any x y z t _ HC.out).mono ?_
  rw [HV2.out]
  rintro e w5 ⟨rfl, hb5⟩
  have Q5 := Lib.hid (Q4.out.below hb5 Q4.out.lt)
  have B5 := Lib.hid (B4.out.trans (hb5.mono B4.out.size))
  clear hb5 c0 c1 c2 c3 fz
  obtain ⟨e0, e1, e2, e3, ez⟩ := id Q5.out
  go_wp2_with fail
  go_ret
  exact ⟨by simp, B5.out⟩

set_option maxRecDepth 100000 in
set_option maxHeartbeats 4000000 in
theorem rtle_walk (a : Option Addr) (len cap : Nat) (zs : List Int) (w : World) (h : IsRow .u8 w a len cap zs) :
    Calls Try.prog 4 #[.slice a len cap] w fun e w' => e = .returned (.bool true) ∧ Below w.heap.size w w' := by
  have H := Lib.hid h
  clear h
  by_cases hl : 1048576 < len
  · go_enter Try.func4, Try.ntmps4
    go_wp2
    go_ret
    exact ⟨rfl, Below.refl _ _⟩
  go_enter Try.func4, Try.ntmps4
  go_wp2_with fail
  refine (drawRu_any a len cap zs w H.out).mono ?_
  rintro e w1 ⟨x, y, z, t, s, u, ⟨hbd, hs, hu⟩, rfl, hb1⟩
  have HC := Lib.hid (rbd_c2 hbd)
  have P1 := Lib.hid (R4.new w1 x y z t 24)
  have B1 := Lib.hid (hb1.alloc hb1.size (.cells #[.int .i64 x, .int .i64 y, .int .i64 z, .int .i64 t] 24))
  clear hb1 H
  by_cases hk : uok x y z t s u
  case neg =>
    have IU := Lib.hid (fun W : World => iupd_no x y z t s u W HC.out hk)
    have SU := Lib.hid (fun W : World => supd_no x y z t s u W hk)
    unfold UpdNo at IU SU
    clear hk
    obtain ⟨c0, c1, c2, c3, fz⟩ := id P1.out
    go_wp2_with fail
    refine (IU.out _).mono ?_
    rintro e w2 ⟨rfl, hb2⟩
    have P2 := Lib.hid ((P1.out.below hb2 P1.out.lt).alloc (.cells #[.int .i64 0, .int .i64 0, .int .i64 0, .int .i64 0] 24))
    have Q2 := Lib.hid (R4.new w2 0 0 0 0 24)
    have B2 := Lib.hid ((B1.out.trans (hb2.mono B1.out.size)).alloc (B1.out.trans (hb2.mono B1.out.size)).size (.cells #[.int .i64 0, .int .i64 0, .int .i64 0, .int .i64 0] 24))
    clear hb2 c0 c1 c2 c3 fz
    obtain ⟨c0, c1, c2, c3, fz⟩ := id P2.out
    go_wp2_with fail
    refine (SU.out _).mono ?_
    rintro e w3 ⟨rfl, hb3⟩
    have P3 := Lib.hid ((P2.out.below hb3 P2.out.lt).alloc (.cells #[.int .i64 0, .int .i64 0, .int .i64 0, .int .i64 0] 24))
    have Q3 := Lib.hid ((Q2.out.below hb3 Q2.out.lt).alloc (.cells #[.int .i64 0, .int .i64 0, .int .i64 0, .int .i64 0] 24))
    have N3 := Lib.hid (R4.new w3 0 0 0 0 24)
    have B3 := Lib.hid ((B2.out.trans (hb3.mono B2.out.size)).alloc (B2.out.trans (hb3.mono B2.out.size)).size (.cells #[.int .i64 0, .int .i64 0, .int .i64 0, .int .i64 0] 24))
    clear hb3 c0 c1 c2 c3 fz
    obtain ⟨c0, c1, c2, c3, fz⟩ := id P3.out
    obtain ⟨e0, e1, e2, e3, ez⟩ := id Q3.out
    obtain ⟨g0, g1, g2, g3, gz⟩ := id N3.out
    go_wp2_with fail
    go_ret
    exact ⟨by simp, B3.out⟩
  have HOK := Lib.hid (u_ok hk.1 hk.2.1 hk.2.2)
  obtain ⟨l, hl'⟩ : ∃ l, uL x y s = l := ⟨_, rfl⟩
  obtain ⟨c, hc'⟩ : ∃ c, uC x y z s u = c := ⟨_, rfl⟩
  obtain ⟨d, hd'⟩ : ∃ d, uD x y z t s u = d := ⟨_, rfl⟩
  have IU := Lib.hid (fun W : World => iupd_yes x y z t s u W hk)
  have SU := Lib.hid (fun W : World => supd_yes x y z t s u W hk)
  unfold UpdYes at IU SU
  rw [hl', hc', hd'] at IU SU HOK
  have HL := Lib.hid hl'
  have HCC := Lib.hid hc'
  have HDD := Lib.hid hd'
  have HK := Lib.hid hk
  clear hl' hc' hd'
  clear hk
  by_cases hx : x = 0
  · have hx0 : (x == 0) = true := by rw [beq_iff_eq]; exact hx
    have hls : s = l := by rw [← HL.out]; unfold uL; rw [if_pos hx]
    subst hls
    clear hx
    obtain ⟨c0, c1, c2, c3, fz⟩ := id P1.out
    go_wp2_with fail
    refine (IU.out _).mono ?_
    rintro e w2 ⟨rfl, hb2⟩
    have P2 := Lib.hid ((P1.out.below hb2 P1.out.lt).alloc (.cells #[.int .i64 s, .int .i64 s, .int .i64 c, .int .i64 d] 24))
    have Q2 := Lib.hid (R4.new w2 s s c d 24)
    have B2 := Lib.hid ((B1.out.trans (hb2.mono B1.out.size)).alloc (B1.out.trans (hb2.mono B1.out.size)).size (.cells #[.int .i64 s, .int .i64 s, .int .i64 c, .int .i64 d] 24))
    clear hb2 c0 c1 c2 c3 fz
    obtain ⟨c0, c1, c2, c3, fz⟩ := id P2.out
    go_wp2_with fail
    refine (SU.out _).mono ?_
    rintro e w3 ⟨rfl, hb3⟩
    have P3 := Lib.hid ((P2.out.below hb3 P2.out.lt).alloc (.cells #[.int .i64 s, .int .i64 s, .int .i64 c, .int .i64 d] 24))
    have Q3 := Lib.hid ((Q2.out.below hb3 Q2.out.lt).alloc (.cells #[.int .i64 s, .int .i64 s, .int .i64 c, .int .i64 d] 24))
    have N3 := Lib.hid (R4.new w3 s s c d 24)
    have B3 := Lib.hid ((B2.out.trans (hb3.mono B2.out.size)).alloc (B2.out.trans (hb3.mono B2.out.size)).size (.cells #[.int .i64 s, .int .i64 s, .int .i64 c, .int .i64 d] 24))
    clear hb3 c0 c1 c2 c3 fz
    obtain ⟨c0, c1, c2, c3, fz⟩ := id P3.out
    obtain ⟨e0, e1, e2, e3, ez⟩ := id Q3.out
    obtain ⟨g0, g1, g2, g3, gz⟩ := id N3.out
    go_wp2_with fail
    go_ret
    exact ⟨by simp, B3.out⟩
  · have hx0 : (x == 0) = false := by rw [beq_eq_false_iff_ne]; exact hx
    have hlm : (if s < y then s else y) = l := by rw [← HL.out]; unfold uL; rw [if_neg hx]; split <;> omega
    clear hx
    obtain ⟨c0, c1, c2, c3, fz⟩ := id P1.out
    go_wp2_with fail
    refine (IU.out _).mono ?_
    rintro e w2 ⟨rfl, hb2⟩
    have P2 := Lib.hid ((P1.out.below hb2 P1.out.lt).alloc (.cells #[.int .i64 s, .int .i64 l, .int .i64 c, .int .i64 d] 24))
    have Q2 := Lib.hid (R4.new w2 s l c d 24)
    have B2 := Lib.hid ((B1.out.trans (hb2.mono B1.out.size)).alloc (B1.out.trans (hb2.mono B1.out.size)).size (.cells #[.int .i64 s, .int .i64 l, .int .i64 c, .int .i64 d] 24))
    clear hb2 c0 c1 c2 c3 fz
    obtain ⟨c0, c1, c2, c3, fz⟩ := id P2.out
    go_wp2_with fail
    refine (SU.out _).mono ?_
    rintro e w3 ⟨rfl, hb3⟩
    have P3 := Lib.hid ((P2.out.below hb3 P2.out.lt).alloc (.cells #[.int .i64 s, .int .i64 l, .int .i64 c, .int .i64 d] 24))
    have Q3 := Lib.hid ((Q2.out.below hb3 Q2.out.lt).alloc (.cells #[.int .i64 s, .int .i64 l, .int .i64 c, .int .i64 d] 24))
    have N3 := Lib.hid (R4.new w3 s l c d 24)
    have B3 := Lib.hid ((B2.out.trans (hb3.mono B2.out.size)).alloc (B2.out.trans (hb3.mono B2.out.size)).size (.cells #[.int .i64 s, .int .i64 l, .int .i64 c, .int .i64 d] 24))
    clear hb3 c0 c1 c2 c3 fz
    obtain ⟨c0, c1, c2, c3, fz⟩ := id P3.out
    obtain ⟨e0, e1, e2, e3, ez⟩ := id Q3.out
    obtain ⟨g0, g1, g2, g3, gz⟩ := id N3.out
    go_wp2_with fail
    go_ret
    exact ⟨by simp, B3.out⟩

set_option maxRecDepth 100000 in
set_option maxHeartbeats 4000000 in
theorem rtfi_walk (a : Option Addr) (len cap : Nat) (zs : List Int) (w : World) (h : IsRow .u8 w a len cap zs) :
    Calls Try.prog 5 #[.slice a len cap] w fun e w' => e = .returned (.bool true) ∧ Below w.heap.size w w' := by
  have H := Lib.hid h
  clear h
  by_cases hl : 1048576 < len
  · go_enter Try.func5, Try.ntmps5
    go_wp2
    go_ret
    exact ⟨rfl, Below.refl _ _⟩
  go_enter Try.func5, Try.ntmps5
  go_wp2_with fail
  refine (drawRu_any a len cap zs w H.out).mono ?_
  rintro e w1 ⟨x, y, z, t, s, u, ⟨hbd, hs, hu⟩, rfl, hb1⟩
  have HC := Lib.hid (rbd_c2 hbd)
  have P1 := Lib.hid (R4.new w1 x y z t 24)
  have B1 := Lib.hid (hb1.alloc hb1.size (.cells #[.int .i64 x, .int .i64 y, .int .i64 z, .int .i64 t] 24))
  clear hb1 H
  by_cases hk : uok x y z t s u
  case neg =>
    have IU := Lib.hid (fun W : World => iupd_no x y z t s u W HC.out hk)
    have SU := Lib.hid (fun W : World => supd_no x y z t s u W hk)
    unfold UpdNo at IU SU
    clear hk
    obtain ⟨c0, c1, c2, c3, fz⟩ := id P1.out
    go_wp2_with fail
    refine (IU.out _).mono ?_
    rintro e w2 ⟨rfl, hb2⟩
    have P2 := Lib.hid ((P1.out.below hb2 P1.out.lt).alloc (.cells #[.int .i64 0, .int .i64 0, .int .i64 0, .int .i64 0] 24))
    have Q2 := Lib.hid (R4.new w2 0 0 0 0 24)
    have B2 := Lib.hid ((B1.out.trans (hb2.mono B1.out.size)).alloc (B1.out.trans (hb2.mono B1.out.size)).size (.cells #[.int .i64 0, .int .i64 0, .int .i64 0, .int .i64 0] 24))
    clear hb2 c0 c1 c2 c3 fz
    obtain ⟨c0, c1, c2, c3, fz⟩ := id P2.out
    go_wp2_with fail
    refine (SU.out _).mono ?_
    rintro e w3 ⟨rfl, hb3⟩
    have P3 := Lib.hid ((P2.out.below hb3 P2.out.lt).alloc (.cells #[.int .i64 0, .int .i64 0, .int .i64 0, .int .i64 0] 24))
    have Q3 := Lib.hid ((Q2.out.below hb3 Q2.out.lt).alloc (.cells #[.int .i64 0, .int .i64 0, .int .i64 0, .int .i64 0] 24))
    have N3 := Lib.hid (R4.new w3 0 0 0 0 24)
    have B3 := Lib.hid ((B2.out.trans (hb3.mono B2.out.size)).alloc (B2.out.trans (hb3.mono B2.out.size)).size (.cells #[.int .i64 0, .int .i64 0, .int .i64 0, .int .i64 0] 24))
    clear hb3 c0 c1 c2 c3 fz
    obtain ⟨c0, c1, c2, c3, fz⟩ := id P3.out
    obtain ⟨e0, e1, e2, e3, ez⟩ := id Q3.out
    obtain ⟨g0, g1, g2, g3, gz⟩ := id N3.out
    go_wp2_with fail
    go_ret
    exact ⟨by simp, B3.out⟩
  have HOK := Lib.hid (u_ok hk.1 hk.2.1 hk.2.2)
  obtain ⟨l, hl'⟩ : ∃ l, uL x y s = l := ⟨_, rfl⟩
  obtain ⟨c, hc'⟩ : ∃ c, uC x y z s u = c := ⟨_, rfl⟩
  obtain ⟨d, hd'⟩ : ∃ d, uD x y z t s u = d := ⟨_, rfl⟩
  have IU := Lib.hid (fun W : World => iupd_yes x y z t s u W hk)
  have SU := Lib.hid (fun W : World => supd_yes x y z t s u W hk)
  unfold UpdYes at IU SU
  rw [hl', hc', hd'] at IU SU HOK
  have HL := Lib.hid hl'
  have HCC := Lib.hid hc'
  have HDD := Lib.hid hd'
  have HK := Lib.hid hk
  clear hl' hc' hd'
  have hk0 : uok 0 0 0 0 s u := ⟨.inl ⟨rfl, rfl, rfl, rfl⟩, hk.2.1, hk.2.2⟩
  have Y0 := Lib.hid (fun W : World => iupd_yes 0 0 0 0 s u W hk0)
  unfold UpdYes at Y0
  have EL : uL 0 0 s = s := rfl
  have EC : uC 0 0 0 s u = 8 * s := rfl
  have ED : uD 0 0 0 0 s u = 2 * s := rfl
  rw [EL, EC, ED] at Y0
  clear EL EC ED hk0
  clear hk
  obtain ⟨c0, c1, c2, c3, fz⟩ := id P1.out
  go_wp2_with fail
  refine (IU.out _).mono ?_
  rintro e w2 ⟨rfl, hb2⟩
  have P2 := Lib.hid ((P1.out.below hb2 P1.out.lt).alloc (.cells #[.int .i64 s, .int .i64 l, .int .i64 c, .int .i64 d] 24))
  have Q2 := Lib.hid (R4.new w2 s l c d 24)
  have B2 := Lib.hid ((B1.out.trans (hb2.mono B1.out.size)).alloc (B1.out.trans (hb2.mono B1.out.size)).size (.cells #[.int .i64 s, .int .i64 l, .int .i64 c, .int .i64 d] 24))
  clear hb2 c0 c1 c2 c3 fz
  obtain ⟨c0, c1, c2, c3, fz⟩ := id P2.out
  go_wp2_with fail
  refine (SU.out _).mono ?_
  rintro e w3 ⟨rfl, hb3⟩
  have P3 := Lib.hid ((P2.out.below hb3 P2.out.lt).alloc (.cells #[.int .i64 s, .int .i64 l, .int .i64 c, .int .i64 d] 24))
  have Q3 := Lib.hid ((Q2.out.below hb3 Q2.out.lt).alloc (.cells #[.int .i64 s, .int .i64 l, .int .i64 c, .int .i64 d] 24))
  have N3 := Lib.hid (R4.new w3 s l c d 24)
  have B3 := Lib.hid ((B2.out.trans (hb3.mono B2.out.size)).alloc (B2.out.trans (hb3.mono B2.out.size)).size (.cells #[.int .i64 s, .int .i64 l, .int .i64 c, .int .i64 d] 24))
  clear hb3 c0 c1 c2 c3 fz
  obtain ⟨c0, c1, c2, c3, fz⟩ := id P3.out
  obtain ⟨e0, e1, e2, e3, ez⟩ := id Q3.out
  obtain ⟨g0, g1, g2, g3, gz⟩ := id N3.out
  go_wp2_with fail
  refine (Y0.out _).mono ?_
  rintro e w4 ⟨rfl, hb4⟩
  have N4 := Lib.hid (R4.new w4 s s (8 * s) (2 * s) 24)
  have B4 := Lib.hid ((B3.out.trans (hb4.mono B3.out.size)).alloc (B3.out.trans (hb4.mono B3.out.size)).size (.cells #[.int .i64 s, .int .i64 s, .int .i64 (8 * s), .int .i64 (2 * s)] 24))
  clear hb4 c0 c1 c2 c3 fz e0 e1 e2 e3 ez g0 g1 g2 g3 gz
  obtain ⟨g0, g1, g2, g3, gz⟩ := id N4.out
  go_wp2_with fail
  go_ret
  exact ⟨by simp, B4.out⟩

set_option maxRecDepth 100000 in
set_option maxHeartbeats 4000000 in
theorem rtde_walk (a : Option Addr) (len cap : Nat) (zs : List Int) (w : World) (h : IsRow .u8 w a len cap zs) :
    Calls Try.prog 6 #[.slice a len cap] w fun e w' => e = .returned (.bool true) ∧ Below w.heap.size w w' := by
  have H := Lib.hid h
  clear h
  by_cases hl : 1048576 < len
  · go_enter Try.func6, Try.ntmps6
    go_wp2
    go_ret
    exact ⟨rfl, Below.refl _ _⟩
  go_enter Try.func6, Try.ntmps6
  go_wp2_with fail
  refine (drawRu_any a len cap zs w H.out).mono ?_
  rintro e w1 ⟨x, y, z, t, s, u, ⟨hbd, hs, hu⟩, rfl, hb1⟩
  have HC := Lib.hid (rbd_c2 hbd)
  have P1 := Lib.hid (R4.new w1 x y z t 24)
  have B1 := Lib.hid (hb1.alloc hb1.size (.cells #[.int .i64 x, .int .i64 y, .int .i64 z, .int .i64 t] 24))
  clear hb1 H
  by_cases hk : uok x y z t s u
  case neg =>
    have IU := Lib.hid (fun W : World => iupd_no x y z t s u W HC.out hk)
    have SU := Lib.hid (fun W : World => supd_no x y z t s u W hk)
    unfold UpdNo at IU SU
    clear hk
    obtain ⟨c0, c1, c2, c3, fz⟩ := id P1.out
    go_wp2_with fail
    refine (IU.out _).mono ?_
    rintro e w2 ⟨rfl, hb2⟩
    have P2 := Lib.hid ((P1.out.below hb2 P1.out.lt).alloc (.cells #[.int .i64 0, .int .i64 0, .int .i64 0, .int .i64 0] 24))
    have Q2 := Lib.hid (R4.new w2 0 0 0 0 24)
    have B2 := Lib.hid ((B1.out.trans (hb2.mono B1.out.size)).alloc (B1.out.trans (hb2.mono B1.out.size)).size (.cells #[.int .i64 0, .int .i64 0, .int .i64 0, .int .i64 0] 24))
    clear hb2 c0 c1 c2 c3 fz
    obtain ⟨c0, c1, c2, c3, fz⟩ := id P2.out
    go_wp2_with fail
    refine (SU.out _).mono ?_
    rintro e w3 ⟨rfl, hb3⟩
    have P3 := Lib.hid ((P2.out.below hb3 P2.out.lt).alloc (.cells #[.int .i64 0, .int .i64 0, .int .i64 0, .int .i64 0] 24))
    have Q3 := Lib.hid ((Q2.out.below hb3 Q2.out.lt).alloc (.cells #[.int .i64 0, .int .i64 0, .int .i64 0, .int .i64 0] 24))
    have N3 := Lib.hid (R4.new w3 0 0 0 0 24)
    have B3 := Lib.hid ((B2.out.trans (hb3.mono B2.out.size)).alloc (B2.out.trans (hb3.mono B2.out.size)).size (.cells #[.int .i64 0, .int .i64 0, .int .i64 0, .int .i64 0] 24))
    clear hb3 c0 c1 c2 c3 fz
    obtain ⟨c0, c1, c2, c3, fz⟩ := id P3.out
    obtain ⟨e0, e1, e2, e3, ez⟩ := id Q3.out
    obtain ⟨g0, g1, g2, g3, gz⟩ := id N3.out
    go_wp2_with fail
    go_ret
    exact ⟨by simp, B3.out⟩
  have HOK := Lib.hid (u_ok hk.1 hk.2.1 hk.2.2)
  obtain ⟨l, hl'⟩ : ∃ l, uL x y s = l := ⟨_, rfl⟩
  obtain ⟨c, hc'⟩ : ∃ c, uC x y z s u = c := ⟨_, rfl⟩
  obtain ⟨d, hd'⟩ : ∃ d, uD x y z t s u = d := ⟨_, rfl⟩
  have IU := Lib.hid (fun W : World => iupd_yes x y z t s u W hk)
  have SU := Lib.hid (fun W : World => supd_yes x y z t s u W hk)
  unfold UpdYes at IU SU
  rw [hl', hc', hd'] at IU SU HOK
  have HL := Lib.hid hl'
  have HCC := Lib.hid hc'
  have HDD := Lib.hid hd'
  have HK := Lib.hid hk
  clear hl' hc' hd'
  have hk0 : uok x y z t s 0 := ⟨hk.1, hk.2.1, by omega⟩
  have Y0 := Lib.hid (fun W : World => iupd_yes x y z t s 0 W hk0)
  unfold UpdYes at Y0
  clear hk0
  clear hk
  obtain ⟨hs1, hs2⟩ := HK.out.2.1
  obtain ⟨hu1, hu2⟩ := HK.out.2.2
  by_cases hq : x = 0 ∨ un y s u = s
  · have E1 : uC x y z s 0 = c := by rw [← HCC.out]; unfold uC; split; rfl; rw [un_zero, hq.resolve_left (by assumption)]
    have E2 : uD x y z t s 0 = d := by rw [← HDD.out]; unfold uD; split; rfl; rw [un_zero, hq.resolve_left (by assumption)]
    rw [E1, E2, HL.out] at Y0
    clear E1 E2 hq
    obtain ⟨q1, hq1⟩ : ∃ q, decide (l ≤ s - u) = q := ⟨_, rfl⟩
    obtain ⟨q2, hq2⟩ : ∃ q, decide (0 < x) = q := ⟨_, rfl⟩
    obtain ⟨c0, c1, c2, c3, fz⟩ := id P1.out
    go_wp2_with fail
    refine (IU.out _).mono ?_
    rintro e w2 ⟨rfl, hb2⟩
    have P2 := Lib.hid ((P1.out.below hb2 P1.out.lt).alloc (.cells #[.int .i64 s, .int .i64 l, .int .i64 c, .int .i64 d] 24))
    have Q2 := Lib.hid (R4.new w2 s l c d 24)
    have B2 := Lib.hid ((B1.out.trans (hb2.mono B1.out.size)).alloc (B1.out.trans (hb2.mono B1.out.size)).size (.cells #[.int .i64 s, .int .i64 l, .int .i64 c, .int .i64 d] 24))
    clear hb2 c0 c1 c2 c3 fz
    obtain ⟨c0, c1, c2, c3, fz⟩ := id P2.out
    go_wp2_with fail
    refine (SU.out _).mono ?_
    rintro e w3 ⟨rfl, hb3⟩
    have P3 := Lib.hid ((P2.out.below hb3 P2.out.lt).alloc (.cells #[.int .i64 s, .int .i64 l, .int .i64 c, .int .i64 d] 24))
    have Q3 := Lib.hid ((Q2.out.below hb3 Q2.out.lt).alloc (.cells #[.int .i64 s, .int .i64 l, .int .i64 c, .int .i64 d] 24))
    have N3 := Lib.hid (R4.new w3 s l c d 24)
    have B3 := Lib.hid ((B2.out.trans (hb3.mono B2.out.size)).alloc (B2.out.trans (hb3.mono B2.out.size)).size (.cells #[.int .i64 s, .int .i64 l, .int .i64 c, .int .i64 d] 24))
    clear hb3 c0 c1 c2 c3 fz
    obtain ⟨c0, c1, c2, c3, fz⟩ := id P3.out
    obtain ⟨e0, e1, e2, e3, ez⟩ := id Q3.out
    obtain ⟨g0, g1, g2, g3, gz⟩ := id N3.out
    go_wp2_with fail
    refine (Y0.out _).mono ?_
    rintro e w4 ⟨rfl, hb4⟩
    have P4 := Lib.hid ((P3.out.below hb4 P3.out.lt).alloc (.cells #[.int .i64 s, .int .i64 l, .int .i64 c, .int .i64 d] 24))
    have Q4 := Lib.hid ((Q3.out.below hb4 Q3.out.lt).alloc (.cells #[.int .i64 s, .int .i64 l, .int .i64 c, .int .i64 d] 24))
    have N4 := Lib.hid (R4.new w4 s l c d 24)
    have B4 := Lib.hid ((B3.out.trans (hb4.mono B3.out.size)).alloc (B3.out.trans (hb4.mono B3.out.size)).size (.cells #[.int .i64 s, .int .i64 l, .int .i64 c, .int .i64 d] 24))
    clear hb4 c0 c1 c2 c3 fz e0 e1 e2 e3 ez g0 g1 g2 g3 gz
    obtain ⟨c0, c1, c2, c3, fz⟩ := id P4.out
    obtain ⟨e0, e1, e2, e3, ez⟩ := id Q4.out
    obtain ⟨g0, g1, g2, g3, gz⟩ := id N4.out
    cases q1 <;> cases q2
    all_goals
      go_wp2_with fail
      go_ret
      exact ⟨by simp, B4.out⟩
  · have hx : ¬ x = 0 := fun h => hq (.inl h)
    have hu0 : ¬ un y s u = s := fun h => hq (.inr h)
    have hx0 : 0 < x := by have := HK.out.1; unfold rok rz rs at this; omega
    have hle : l ≤ s - u := by
      rw [← HL.out, uL_pos hx]
      unfold un at hu0
      split at hu0
      · exact absurd rfl hu0
      · omega
    have hd1 := decide_eq_true hle
    have hd2 := decide_eq_true hx0
    obtain ⟨c9, hc9⟩ : ∃ q, uC x y z s 0 = q := ⟨_, rfl⟩
    obtain ⟨d9, hd9⟩ : ∃ q, uD x y z t s 0 = q := ⟨_, rfl⟩
    rw [hc9, hd9, HL.out] at Y0
    clear hc9 hd9 hq hx hu0
    obtain ⟨c0, c1, c2, c3, fz⟩ := id P1.out
    go_wp2_with fail
    refine (IU.out _).mono ?_
    rintro e w2 ⟨rfl, hb2⟩
    have P2 := Lib.hid ((P1.out.below hb2 P1.out.lt).alloc (.cells #[.int .i64 s, .int .i64 l, .int .i64 c, .int .i64 d] 24))
    have Q2 := Lib.hid (R4.new w2 s l c d 24)
    have B2 := Lib.hid ((B1.out.trans (hb2.mono B1.out.size)).alloc (B1.out.trans (hb2.mono B1.out.size)).size (.cells #[.int .i64 s, .int .i64 l, .int .i64 c, .int .i64 d] 24))
    clear hb2 c0 c1 c2 c3 fz
    obtain ⟨c0, c1, c2, c3, fz⟩ := id P2.out
    go_wp2_with fail
    refine (SU.out _).mono ?_
    rintro e w3 ⟨rfl, hb3⟩
    have P3 := Lib.hid ((P2.out.below hb3 P2.out.lt).alloc (.cells #[.int .i64 s, .int .i64 l, .int .i64 c, .int .i64 d] 24))
    have Q3 := Lib.hid ((Q2.out.below hb3 Q2.out.lt).alloc (.cells #[.int .i64 s, .int .i64 l, .int .i64 c, .int .i64 d] 24))
    have N3 := Lib.hid (R4.new w3 s l c d 24)
    have B3 := Lib.hid ((B2.out.trans (hb3.mono B2.out.size)).alloc (B2.out.trans (hb3.mono B2.out.size)).size (.cells #[.int .i64 s, .int .i64 l, .int .i64 c, .int .i64 d] 24))
    clear hb3 c0 c1 c2 c3 fz
    obtain ⟨c0, c1, c2, c3, fz⟩ := id P3.out
    obtain ⟨e0, e1, e2, e3, ez⟩ := id Q3.out
    obtain ⟨g0, g1, g2, g3, gz⟩ := id N3.out
    go_wp2_with fail
    refine (Y0.out _).mono ?_
    rintro e w4 ⟨rfl, hb4⟩
    have P4 := Lib.hid ((P3.out.below hb4 P3.out.lt).alloc (.cells #[.int .i64 s, .int .i64 l, .int .i64 c9, .int .i64 d9] 24))
    have Q4 := Lib.hid ((Q3.out.below hb4 Q3.out.lt).alloc (.cells #[.int .i64 s, .int .i64 l, .int .i64 c9, .int .i64 d9] 24))
    have N4 := Lib.hid (R4.new w4 s l c9 d9 24)
    have B4 := Lib.hid ((B3.out.trans (hb4.mono B3.out.size)).alloc (B3.out.trans (hb4.mono B3.out.size)).size (.cells #[.int .i64 s, .int .i64 l, .int .i64 c9, .int .i64 d9] 24))
    clear hb4 c0 c1 c2 c3 fz e0 e1 e2 e3 ez g0 g1 g2 g3 gz
    obtain ⟨c0, c1, c2, c3, fz⟩ := id P4.out
    obtain ⟨e0, e1, e2, e3, ez⟩ := id Q4.out
    obtain ⟨g0, g1, g2, g3, gz⟩ := id N4.out
    go_wp2_with fail
    go_ret
    exact ⟨by simp, B4.out⟩

set_option maxRecDepth 100000 in
set_option maxHeartbeats 4000000 in
theorem rtto_walk (a : Option Addr) (len cap : Nat) (zs : List Int) (w : World) (h : IsRow .u8 w a len cap zs) :
    Calls Try.prog 7 #[.slice a len cap] w fun e w' => e = .returned (.bool true) ∧ Below w.heap.size w w' := by
  have H := Lib.hid h
  clear h
  by_cases hl : 1048576 < len
  · go_enter Try.func7, Try.ntmps7
    go_wp2
    go_ret
    exact ⟨rfl, Below.refl _ _⟩
  go_enter Try.func7, Try.ntmps7
  go_wp2_with fail
  refine (drawRu_any a len cap zs w H.out).mono ?_
  rintro e w1 ⟨x, y, z, t, s, u, ⟨hbd, hs, hu⟩, rfl, hb1⟩
  have HC := Lib.hid (rbd_c2 hbd)
  have P1 := Lib.hid (R4.new w1 x y z t 24)
  have B1 := Lib.hid (hb1.alloc hb1.size (.cells #[.int .i64 x, .int .i64 y, .int .i64 z, .int .i64 t] 24))
  clear hb1 H
  by_cases hk : uok x y z t s u
  case neg =>
    have IU := Lib.hid (fun W : World => iupd_no x y z t s u W HC.out hk)
    have SU := Lib.hid (fun W : World => supd_no x y z t s u W hk)
    unfold UpdNo at IU SU
    clear hk
    obtain ⟨c0, c1, c2, c3, fz⟩ := id P1.out
    go_wp2_with fail
    refine (IU.out _).mono ?_
    rintro e w2 ⟨rfl, hb2⟩
    have P2 := Lib.hid ((P1.out.below hb2 P1.out.lt).alloc (.cells #[.int .i64 0, .int .i64 0, .int .i64 0, .int .i64 0] 24))
    have Q2 := Lib.hid (R4.new w2 0 0 0 0 24)
    have B2 := Lib.hid ((B1.out.trans (hb2.mono B1.out.size)).alloc (B1.out.trans (hb2.mono B1.out.size)).size (.cells #[.int .i64 0, .int .i64 0, .int .i64 0, .int .i64 0] 24))
    clear hb2 c0 c1 c2 c3 fz
    obtain ⟨c0, c1, c2, c3, fz⟩ := id P2.out
    go_wp2_with fail
    refine (SU.out _).mono ?_
    rintro e w3 ⟨rfl, hb3⟩
    have P3 := Lib.hid ((P2.out.below hb3 P2.out.lt).alloc (.cells #[.int .i64 0, .int .i64 0, .int .i64 0, .int .i64 0] 24))
    have Q3 := Lib.hid ((Q2.out.below hb3 Q2.out.lt).alloc (.cells #[.int .i64 0, .int .i64 0, .int .i64 0, .int .i64 0] 24))
    have N3 := Lib.hid (R4.new w3 0 0 0 0 24)
    have B3 := Lib.hid ((B2.out.trans (hb3.mono B2.out.size)).alloc (B2.out.trans (hb3.mono B2.out.size)).size (.cells #[.int .i64 0, .int .i64 0, .int .i64 0, .int .i64 0] 24))
    clear hb3 c0 c1 c2 c3 fz
    obtain ⟨c0, c1, c2, c3, fz⟩ := id P3.out
    obtain ⟨e0, e1, e2, e3, ez⟩ := id Q3.out
    obtain ⟨g0, g1, g2, g3, gz⟩ := id N3.out
    go_wp2_with fail
    go_ret
    exact ⟨by simp, B3.out⟩
  have HOK := Lib.hid (u_ok hk.1 hk.2.1 hk.2.2)
  obtain ⟨l, hl'⟩ : ∃ l, uL x y s = l := ⟨_, rfl⟩
  obtain ⟨c, hc'⟩ : ∃ c, uC x y z s u = c := ⟨_, rfl⟩
  obtain ⟨d, hd'⟩ : ∃ d, uD x y z t s u = d := ⟨_, rfl⟩
  have IU := Lib.hid (fun W : World => iupd_yes x y z t s u W hk)
  have SU := Lib.hid (fun W : World => supd_yes x y z t s u W hk)
  unfold UpdYes at IU SU
  rw [hl', hc', hd'] at IU SU HOK
  have HL := Lib.hid hl'
  have HCC := Lib.hid hc'
  have HDD := Lib.hid hd'
  have HK := Lib.hid hk
  clear hl' hc' hd'
  have hk0 : uok x y z t s 0 := ⟨hk.1, hk.2.1, by omega⟩
  have Y0 := Lib.hid (fun W : World => iupd_yes x y z t s 0 W hk0)
  unfold UpdYes at Y0
  clear hk0
  clear hk
  obtain ⟨hs1, hs2⟩ := HK.out.2.1
  by_cases hx : x = 0
  · have hx0 : (x == 0) = true := by rw [beq_iff_eq]; exact hx
    obtain ⟨c9, hc9⟩ : ∃ q, uC x y z s 0 = q := ⟨_, rfl⟩
    obtain ⟨d9, hd9⟩ : ∃ q, uD x y z t s 0 = q := ⟨_, rfl⟩
    rw [hc9, hd9, HL.out] at Y0
    clear hc9 hd9 hx
    obtain ⟨c0, c1, c2, c3, fz⟩ := id P1.out
    go_wp2_with fail
    refine (IU.out _).mono ?_
    rintro e w2 ⟨rfl, hb2⟩
    have P2 := Lib.hid ((P1.out.below hb2 P1.out.lt).alloc (.cells #[.int .i64 s, .int .i64 l, .int .i64 c, .int .i64 d] 24))
    have Q2 := Lib.hid (R4.new w2 s l c d 24)
    have B2 := Lib.hid ((B1.out.trans (hb2.mono B1.out.size)).alloc (B1.out.trans (hb2.mono B1.out.size)).size (.cells #[.int .i64 s, .int .i64 l, .int .i64 c, .int .i64 d] 24))
    clear hb2 c0 c1 c2 c3 fz
    obtain ⟨c0, c1, c2, c3, fz⟩ := id P2.out
    go_wp2_with fail
    refine (SU.out _).mono ?_
    rintro e w3 ⟨rfl, hb3⟩
    have P3 := Lib.hid ((P2.out.below hb3 P2.out.lt).alloc (.cells #[.int .i64 s, .int .i64 l, .int .i64 c, .int .i64 d] 24))
    have Q3 := Lib.hid ((Q2.out.below hb3 Q2.out.lt).alloc (.cells #[.int .i64 s, .int .i64 l, .int .i64 c, .int .i64 d] 24))
    have N3 := Lib.hid (R4.new w3 s l c d 24)
    have B3 := Lib.hid ((B2.out.trans (hb3.mono B2.out.size)).alloc (B2.out.trans (hb3.mono B2.out.size)).size (.cells #[.int .i64 s, .int .i64 l, .int .i64 c, .int .i64 d] 24))
    clear hb3 c0 c1 c2 c3 fz
    obtain ⟨c0, c1, c2, c3, fz⟩ := id P3.out
    obtain ⟨e0, e1, e2, e3, ez⟩ := id Q3.out
    obtain ⟨g0, g1, g2, g3, gz⟩ := id N3.out
    go_wp2_with fail
    refine (Y0.out _).mono ?_
    rintro e w4 ⟨rfl, hb4⟩
    have P4 := Lib.hid ((P3.out.below hb4 P3.out.lt).alloc (.cells #[.int .i64 s, .int .i64 l, .int .i64 c9, .int .i64 d9] 24))
    have Q4 := Lib.hid ((Q3.out.below hb4 Q3.out.lt).alloc (.cells #[.int .i64 s, .int .i64 l, .int .i64 c9, .int .i64 d9] 24))
    have N4 := Lib.hid (R4.new w4 s l c9 d9 24)
    have B4 := Lib.hid ((B3.out.trans (hb4.mono B3.out.size)).alloc (B3.out.trans (hb4.mono B3.out.size)).size (.cells #[.int .i64 s, .int .i64 l, .int .i64 c9, .int .i64 d9] 24))
    clear hb4 c0 c1 c2 c3 fz e0 e1 e2 e3 ez g0 g1 g2 g3 gz
    obtain ⟨c0, c1, c2, c3, fz⟩ := id P4.out
    obtain ⟨e0, e1, e2, e3, ez⟩ := id Q4.out
    obtain ⟨g0, g1, g2, g3, gz⟩ := id N4.out
    go_wp2_with fail
    go_ret
    exact ⟨by simp, B4.out⟩
  · have hx0 : (x == 0) = false := by rw [beq_eq_false_iff_ne]; exact hx
    have hr : rs x y z t := by
      rcases HK.out.1 with h | h
      · exact absurd h.1 hx
      · exact h
    have E1 : uC x y z s 0 = z - z / 8 + s := by rw [uC_pos hx, un_zero]
    obtain ⟨d9, hd9⟩ : ∃ q, uD x y z t s 0 = q := ⟨_, rfl⟩
    rw [E1, hd9, HL.out] at Y0
    obtain ⟨k5, k6⟩ := hr.2.2.1
    clear hd9 hx E1 hr
    obtain ⟨c9, hc9⟩ : ∃ q, z - z / 8 + s = q := ⟨_, rfl⟩
    rw [hc9] at Y0
    have hb1 : decide (z < c9) = decide (z / 8 < s) := by rw [decide_eq_decide]; omega
    have hb2 : decide (c9 < z) = decide (s < z / 8) := by rw [decide_eq_decide]; omega
    obtain ⟨q1, hq1⟩ : ∃ q, decide (z / 8 < s) = q := ⟨_, rfl⟩
    obtain ⟨q2, hq2⟩ : ∃ q, decide (s < z / 8) = q := ⟨_, rfl⟩
    rw [hq1] at hb1
    rw [hq2] at hb2
    clear hc9
    obtain ⟨c0, c1, c2, c3, fz⟩ := id P1.out
    go_wp2_with fail
    refine (IU.out _).mono ?_
    rintro e w2 ⟨rfl, hb2⟩
    have P2 := Lib.hid ((P1.out.below hb2 P1.out.lt).alloc (.cells #[.int .i64 s, .int .i64 l, .int .i64 c, .int .i64 d] 24))
    have Q2 := Lib.hid (R4.new w2 s l c d 24)
    have B2 := Lib.hid ((B1.out.trans (hb2.mono B1.out.size)).alloc (B1.out.trans (hb2.mono B1.out.size)).size (.cells #[.int .i64 s, .int .i64 l, .int .i64 c, .int .i64 d] 24))
    clear hb2 c0 c1 c2 c3 fz
    obtain ⟨c0, c1, c2, c3, fz⟩ := id P2.out
    go_wp2_with fail
    refine (SU.out _).mono ?_
    rintro e w3 ⟨rfl, hb3⟩
    have P3 := Lib.hid ((P2.out.below hb3 P2.out.lt).alloc (.cells #[.int .i64 s, .int .i64 l, .int .i64 c, .int .i64 d] 24))
    have Q3 := Lib.hid ((Q2.out.below hb3 Q2.out.lt).alloc (.cells #[.int .i64 s, .int .i64 l, .int .i64 c, .int .i64 d] 24))
    have N3 := Lib.hid (R4.new w3 s l c d 24)
    have B3 := Lib.hid ((B2.out.trans (hb3.mono B2.out.size)).alloc (B2.out.trans (hb3.mono B2.out.size)).size (.cells #[.int .i64 s, .int .i64 l, .int .i64 c, .int .i64 d] 24))
    clear hb3 c0 c1 c2 c3 fz
    obtain ⟨c0, c1, c2, c3, fz⟩ := id P3.out
    obtain ⟨e0, e1, e2, e3, ez⟩ := id Q3.out
    obtain ⟨g0, g1, g2, g3, gz⟩ := id N3.out
    go_wp2_with fail
    refine (Y0.out _).mono ?_
    rintro e w4 ⟨rfl, hb4⟩
    have P4 := Lib.hid ((P3.out.below hb4 P3.out.lt).alloc (.cells #[.int .i64 s, .int .i64 l, .int .i64 c9, .int .i64 d9] 24))
    have Q4 := Lib.hid ((Q3.out.below hb4 Q3.out.lt).alloc (.cells #[.int .i64 s, .int .i64 l, .int .i64 c9, .int .i64 d9] 24))
    have N4 := Lib.hid (R4.new w4 s l c9 d9 24)
    have B4 := Lib.hid ((B3.out.trans (hb4.mono B3.out.size)).alloc (B3.out.trans (hb4.mono B3.out.size)).size (.cells #[.int .i64 s, .int .i64 l, .int .i64 c9, .int .i64 d9] 24))
    clear hb4 c0 c1 c2 c3 fz e0 e1 e2 e3 ez g0 g1 g2 g3 gz
    obtain ⟨c0, c1, c2, c3, fz⟩ := id P4.out
    obtain ⟨e0, e1, e2, e3, ez⟩ := id Q4.out
    obtain ⟨g0, g1, g2, g3, gz⟩ := id N4.out
    cases q1 <;> cases q2
    all_goals
      go_wp2_with fail
      go_ret
      exact ⟨by simp, B4.out⟩

end Go.Proofs.Ytlhjhdlpejpooaa
