/- RttUpdate: the contracts, the program's and the model's. -/
import Derived.Test.YtlhjhdlpejpooaaRtU
namespace Go.Proofs.Ytlhjhdlpejpooaa
open Go.RowKit
set_option linter.unusedVariables false
set_option linter.unusedSimpArgs false

theorem results_cell_tmp {fn : Func} {p t : Tmp} {ty : TypeId} (h : fn.results = #[.cell p ty, .tmp t]) (tmps : Array Value) (P : Program) (w : World) :
    (results fn tmps).run P w = ((asAddr (tmps.getD p undef)).run P w).andThen fun a w₁ => ((loadVar ty a).run P w₁).andThen fun v w₂ => .ok (.tuple #[v, tmps.getD t undef]) w₂ := by
  simp only [results, h]
  simp [Sem.run_bind, Result.andThen]

def UpdYes (a b c d s y : Int) (w : World) (e : Ending) (w' : World) : Prop := e = .returned (.tuple #[.agg #[.int .i64 s, .int .i64 (uL a b s), .int .i64 (uC a b c s y), .int .i64 (uD a b c d s y)], .bool true]) ∧ Below w.heap.size w w'
def UpdNo (w : World) (e : Ending) (w' : World) : Prop := e = .returned (.tuple #[.agg #[.int .i64 0, .int .i64 0, .int .i64 0, .int .i64 0], .bool false]) ∧ Below w.heap.size w w'
theorem uL_pos {a b s : Int} (h : ¬ a = 0) : uL a b s = min b s := by unfold uL; rw [if_neg h]
theorem uC_pos {a b c s y : Int} (h : ¬ a = 0) : uC a b c s y = c - c / 8 + un b s y := by unfold uC; rw [if_neg h]
theorem uD_pos {a b c d s y : Int} (h : ¬ a = 0) : uD a b c d s y = d - d / 4 + max (c / 8 - un b s y) (un b s y - c / 8) := by unfold uD; rw [if_neg h]

set_option maxRecDepth 100000 in
set_option maxHeartbeats 2000000 in
theorem iupd_no (a b c d s y : Int) (w : World) (hc : -9223372036854775808 ≤ c ∧ c ≤ 9223372036854775807) (h : ¬ uok a b c d s y) : Calls Try.prog 16 #[.agg #[.int .i64 a, .int .i64 b, .int .i64 c, .int .i64 d], .int .i64 s, .int .i64 y] w (UpdNo w) := by
  unfold UpdNo
  have HCC := Lib.hid hc
  clear hc
  have R := Lib.hid ((R4.new w a b c d 24).alloc (.cells #[.int .i64 0, .int .i64 0, .int .i64 0, .int .i64 0] 24))
  have Z := Lib.hid (show R4 ((w.alloc (.cells #[.int .i64 a, .int .i64 b, .int .i64 c, .int .i64 d] 24)).alloc (.cells #[.int .i64 0, .int .i64 0, .int .i64 0, .int .i64 0] 24)) (w.heap.size + 1) 0 0 0 0 by have k := R4.new (w.alloc (.cells #[.int .i64 a, .int .i64 b, .int .i64 c, .int .i64 d] 24)) 0 0 0 0 24; simpa using k)
  have B := Lib.hid (((Below.refl w.heap.size w).alloc (Nat.le_refl _) (.cells #[.int .i64 a, .int .i64 b, .int .i64 c, .int .i64 d] 24)).alloc (by simp) (.cells #[.int .i64 0, .int .i64 0, .int .i64 0, .int .i64 0] 24))
  obtain ⟨q1, h1⟩ : ∃ q, decide (rok a b c d) = q := ⟨_, rfl⟩
  obtain ⟨q2, h2⟩ : ∃ q, decide (1 ≤ s ∧ s ≤ 999) = q := ⟨_, rfl⟩
  obtain ⟨q3, h3⟩ : ∃ q, decide (0 ≤ y ∧ y ≤ 999) = q := ⟨_, rfl⟩
  have HV := Lib.hid h1
  have H2 := Lib.hid h2
  have H3 := Lib.hid h3
  cases q1
  case false =>
    clear h1 h2 h3 h
    have cc := R.out
    obtain ⟨c0, c1, c2, c3, fz⟩ := cc
    go_enter Try.func16, Try.ntmps16
    go_wp2_with fail
    refine (ivalid_any a b c d _ HCC.out).mono ?_
    rw [HV.out]
    rintro e w1 ⟨rfl, hb1⟩
    have R1 := Lib.hid (R.out.below hb1 (by simp; omega))
    have Z1 := Lib.hid (Z.out.below hb1 (by simp))
    have B1 := Lib.hid (B.out.trans (hb1.mono (by simp; omega)))
    clear hb1 c0 c1 c2 c3 fz
    obtain ⟨c0, c1, c2, c3, fz⟩ := id R1.out
    obtain ⟨g0, g1, g2, g3, gz⟩ := id Z1.out
    have gz0 := gz 0
    have gz1 := gz 1
    have gz2 := gz 2
    have gz3 := gz 3
    go_wp2_with (first | (go_at_call 34; (with_reducible refine (isSample_any _ _).mono ?_); rw [H2.out]; rintro e w' ⟨rfl, rfl⟩) | (go_at_call 35; (with_reducible refine (upTo_any _ _ _).mono ?_); rw [H3.out]; rintro e w' ⟨rfl, rfl⟩))
    refine bodyPost_ret (v := .tuple #[.agg #[.int .i64 0, .int .i64 0, .int .i64 0, .int .i64 0], .bool false]) ?hr rfl ?_
    case hr => rw [results_cell_tmp rfl]; go_simp
    exact ⟨rfl, ((((B1.out.setCell (p := ⟨_, 0, none⟩) (by simp) _).setCell (p := ⟨_, 1, none⟩) (by simp) _).setCell (p := ⟨_, 2, none⟩) (by simp) _).setCell (p := ⟨_, 3, none⟩) (by simp) _)⟩
  cases q2
  case false =>
    clear h1 h2 h3 h
    have cc := R.out
    obtain ⟨c0, c1, c2, c3, fz⟩ := cc
    go_enter Try.func16, Try.ntmps16
    go_wp2_with fail
    refine (ivalid_any a b c d _ HCC.out).mono ?_
    rw [HV.out]
    rintro e w1 ⟨rfl, hb1⟩
    have R1 := Lib.hid (R.out.below hb1 (by simp; omega))
    have Z1 := Lib.hid (Z.out.below hb1 (by simp))
    have B1 := Lib.hid (B.out.trans (hb1.mono (by simp; omega)))
    clear hb1 c0 c1 c2 c3 fz
    obtain ⟨c0, c1, c2, c3, fz⟩ := id R1.out
    obtain ⟨g0, g1, g2, g3, gz⟩ := id Z1.out
    have gz0 := gz 0
    have gz1 := gz 1
    have gz2 := gz 2
    have gz3 := gz 3
    go_wp2_with (first | (go_at_call 34; (with_reducible refine (isSample_any _ _).mono ?_); rw [H2.out]; rintro e w' ⟨rfl, rfl⟩) | (go_at_call 35; (with_reducible refine (upTo_any _ _ _).mono ?_); rw [H3.out]; rintro e w' ⟨rfl, rfl⟩))
    refine bodyPost_ret (v := .tuple #[.agg #[.int .i64 0, .int .i64 0, .int .i64 0, .int .i64 0], .bool false]) ?hr rfl ?_
    case hr => rw [results_cell_tmp rfl]; go_simp
    exact ⟨rfl, ((((B1.out.setCell (p := ⟨_, 0, none⟩) (by simp) _).setCell (p := ⟨_, 1, none⟩) (by simp) _).setCell (p := ⟨_, 2, none⟩) (by simp) _).setCell (p := ⟨_, 3, none⟩) (by simp) _)⟩
  cases q3
  case false =>
    clear h1 h2 h3 h
    have cc := R.out
    obtain ⟨c0, c1, c2, c3, fz⟩ := cc
    go_enter Try.func16, Try.ntmps16
    go_wp2_with fail
    refine (ivalid_any a b c d _ HCC.out).mono ?_
    rw [HV.out]
    rintro e w1 ⟨rfl, hb1⟩
    have R1 := Lib.hid (R.out.below hb1 (by simp; omega))
    have Z1 := Lib.hid (Z.out.below hb1 (by simp))
    have B1 := Lib.hid (B.out.trans (hb1.mono (by simp; omega)))
    clear hb1 c0 c1 c2 c3 fz
    obtain ⟨c0, c1, c2, c3, fz⟩ := id R1.out
    obtain ⟨g0, g1, g2, g3, gz⟩ := id Z1.out
    have gz0 := gz 0
    have gz1 := gz 1
    have gz2 := gz 2
    have gz3 := gz 3
    go_wp2_with (first | (go_at_call 34; (with_reducible refine (isSample_any _ _).mono ?_); rw [H2.out]; rintro e w' ⟨rfl, rfl⟩) | (go_at_call 35; (with_reducible refine (upTo_any _ _ _).mono ?_); rw [H3.out]; rintro e w' ⟨rfl, rfl⟩))
    refine bodyPost_ret (v := .tuple #[.agg #[.int .i64 0, .int .i64 0, .int .i64 0, .int .i64 0], .bool false]) ?hr rfl ?_
    case hr => rw [results_cell_tmp rfl]; go_simp
    exact ⟨rfl, ((((B1.out.setCell (p := ⟨_, 0, none⟩) (by simp) _).setCell (p := ⟨_, 1, none⟩) (by simp) _).setCell (p := ⟨_, 2, none⟩) (by simp) _).setCell (p := ⟨_, 3, none⟩) (by simp) _)⟩
  exact absurd ⟨of_decide_eq_true h1, of_decide_eq_true h2, of_decide_eq_true h3⟩ h

set_option maxRecDepth 100000 in
set_option maxHeartbeats 2000000 in
theorem iupd_yes (a b c d s y : Int) (w : World) (h : uok a b c d s y) : Calls Try.prog 16 #[.agg #[.int .i64 a, .int .i64 b, .int .i64 c, .int .i64 d], .int .i64 s, .int .i64 y] w (UpdYes a b c d s y w) := by
  unfold UpdYes
  have R := Lib.hid ((R4.new w a b c d 24).alloc (.cells #[.int .i64 0, .int .i64 0, .int .i64 0, .int .i64 0] 24))
  have Z := Lib.hid (show R4 ((w.alloc (.cells #[.int .i64 a, .int .i64 b, .int .i64 c, .int .i64 d] 24)).alloc (.cells #[.int .i64 0, .int .i64 0, .int .i64 0, .int .i64 0] 24)) (w.heap.size + 1) 0 0 0 0 by have k := R4.new (w.alloc (.cells #[.int .i64 a, .int .i64 b, .int .i64 c, .int .i64 d] 24)) 0 0 0 0 24; simpa using k)
  have B := Lib.hid (((Below.refl w.heap.size w).alloc (Nat.le_refl _) (.cells #[.int .i64 a, .int .i64 b, .int .i64 c, .int .i64 d] 24)).alloc (by simp) (.cells #[.int .i64 0, .int .i64 0, .int .i64 0, .int .i64 0] 24))
  have HU := Lib.hid h
  have HV := Lib.hid (decide_eq_true h.1)
  have H2 := Lib.hid (decide_eq_true h.2.1)
  have H3 := Lib.hid (decide_eq_true h.2.2)
  have HCC : Hid (-9223372036854775808 ≤ c ∧ c ≤ 9223372036854775807) := Lib.hid (by obtain ⟨h, _⟩ := h; unfold rok rz rs at h; omega)
  by_cases ha : a = 0
  · obtain ⟨rfl, rfl, rfl, rfl⟩ := (rz_iff h.1).mpr ha
    have hs := h.2.1
    have HZ := Lib.hid (decide_eq_true (show rz 0 0 0 0 from ⟨rfl, rfl, rfl, rfl⟩))
    have EL : Hid (uL 0 0 s = s) := Lib.hid rfl
    have EC : Hid (uC 0 0 0 s y = 8 * s) := Lib.hid rfl
    have ED : Hid (uD 0 0 0 0 s y = 2 * s) := Lib.hid rfl
    have HS := Lib.hid hs
    clear h ha hs
    have cc := R.out
    obtain ⟨c0, c1, c2, c3, fz⟩ := cc
    go_enter Try.func16, Try.ntmps16
    go_wp2_with fail
    refine (ivalid_any 0 0 0 0 _ HCC.out).mono ?_
    rw [HV.out]
    rintro e w1 ⟨rfl, hb1⟩
    have R1 := Lib.hid (R.out.below hb1 (by simp; omega))
    have Z1 := Lib.hid (Z.out.below hb1 (by simp))
    have B1 := Lib.hid (B.out.trans (hb1.mono (by simp; omega)))
    clear hb1 c0 c1 c2 c3 fz
    obtain ⟨c0, c1, c2, c3, fz⟩ := id R1.out
    obtain ⟨g0, g1, g2, g3, gz⟩ := id Z1.out
    have gz0 := gz 0
    have gz1 := gz 1
    have gz2 := gz 2
    have gz3 := gz 3
    go_wp2_with (first | (go_at_call 34; (with_reducible refine (isSample_any _ _).mono ?_); rw [H2.out]; rintro e w' ⟨rfl, rfl⟩) | (go_at_call 35; (with_reducible refine (upTo_any _ _ _).mono ?_); rw [H3.out]; rintro e w' ⟨rfl, rfl⟩) | (go_at_call 36; (with_reducible refine (unsampled_any _ _ _ _ _ _ R1.out).mono ?_); rw [HZ.out]; rintro e w' ⟨rfl, rfl⟩))
    refine (start_any _ _ _ _ _ _ _ R1.out HS.out).mono ?_
    rintro e w2 ⟨rfl, r2, o2⟩
    have Z2 := Lib.hid (Z1.out.off o2 (by omega))
    have B2 := Lib.hid (B1.out.trans (o2.below (Nat.le_refl _)))
    clear o2 c0 c1 c2 c3 fz g0 g1 g2 g3 gz gz0 gz1 gz2 gz3
    obtain ⟨c0, c1, c2, c3, fz⟩ := r2
    obtain ⟨g0, g1, g2, g3, gz⟩ := id Z2.out
    have gz0 := gz 0
    have gz1 := gz 1
    have gz2 := gz 2
    have gz3 := gz 3
    go_wp2_with fail
    refine bodyPost_ret (v := .tuple #[.agg #[.int .i64 s, .int .i64 s, .int .i64 (8 * s), .int .i64 (2 * s)], .bool true]) ?hr rfl ?_
    case hr => rw [results_cell_tmp rfl]; go_simp
    rw [EL.out, EC.out, ED.out]
    exact ⟨rfl, ((((B2.out.setCell (p := ⟨_, 0, none⟩) (by simp) _).setCell (p := ⟨_, 1, none⟩) (by simp) _).setCell (p := ⟨_, 2, none⟩) (by simp) _).setCell (p := ⟨_, 3, none⟩) (by simp) _)⟩
  · have hk : rs a b c d := by
      rcases h.1 with k | k
      · exact absurd k.1 ha
      · exact k
    have hs := h.2.1
    have hy := h.2.2
    have HZ := Lib.hid (decide_eq_false (show ¬ rz a b c d from fun k => ha k.1))
    have EL := Lib.hid (uL_pos (b := b) (s := s) ha)
    have EC := Lib.hid (uC_pos (b := b) (c := c) (s := s) (y := y) ha)
    have ED := Lib.hid (uD_pos (b := b) (c := c) (d := d) (s := s) (y := y) ha)
    have HS := Lib.hid hs
    have HY := Lib.hid hy
    have HK := Lib.hid hk
    clear h ha hs hy hk
    obtain ⟨uu, hu⟩ : ∃ z, min b s = z := ⟨_, rfl⟩
    obtain ⟨vv, hv⟩ : ∃ z, c - c / 8 + un b s y = z := ⟨_, rfl⟩
    obtain ⟨xx, hx⟩ : ∃ z, d - d / 4 + max (c / 8 - un b s y) (un b s y - c / 8) = z := ⟨_, rfl⟩
    have AD := Lib.hid (fun (W : World) (q : Nat) (r : R4 W q a b c d) => add_any q a b c d s y W r HK.out HS.out HY.out)
    rw [hu] at EL AD
    rw [hv] at EC AD
    rw [hx] at ED AD
    clear hu hv hx
    have cc := R.out
    obtain ⟨c0, c1, c2, c3, fz⟩ := cc
    go_enter Try.func16, Try.ntmps16
    go_wp2_with fail
    refine (ivalid_any a b c d _ HCC.out).mono ?_
    rw [HV.out]
    rintro e w1 ⟨rfl, hb1⟩
    have R1 := Lib.hid (R.out.below hb1 (by simp; omega))
    have Z1 := Lib.hid (Z.out.below hb1 (by simp))
    have B1 := Lib.hid (B.out.trans (hb1.mono (by simp; omega)))
    clear hb1 c0 c1 c2 c3 fz
    obtain ⟨c0, c1, c2, c3, fz⟩ := id R1.out
    obtain ⟨g0, g1, g2, g3, gz⟩ := id Z1.out
    have gz0 := gz 0
    have gz1 := gz 1
    have gz2 := gz 2
    have gz3 := gz 3
    go_wp2_with (first | (go_at_call 34; (with_reducible refine (isSample_any _ _).mono ?_); rw [H2.out]; rintro e w' ⟨rfl, rfl⟩) | (go_at_call 35; (with_reducible refine (upTo_any _ _ _).mono ?_); rw [H3.out]; rintro e w' ⟨rfl, rfl⟩) | (go_at_call 36; (with_reducible refine (unsampled_any _ _ _ _ _ _ R1.out).mono ?_); rw [HZ.out]; rintro e w' ⟨rfl, rfl⟩))
    refine (AD.out _ _ R1.out).mono ?_
    rintro e w2 ⟨rfl, r2, o2⟩
    have Z2 := Lib.hid (Z1.out.off o2 (by omega))
    have B2 := Lib.hid (B1.out.trans (o2.below (Nat.le_refl _)))
    clear o2 c0 c1 c2 c3 fz g0 g1 g2 g3 gz gz0 gz1 gz2 gz3
    obtain ⟨c0, c1, c2, c3, fz⟩ := r2
    obtain ⟨g0, g1, g2, g3, gz⟩ := id Z2.out
    have gz0 := gz 0
    have gz1 := gz 1
    have gz2 := gz 2
    have gz3 := gz 3
    go_wp2_with fail
    refine bodyPost_ret (v := .tuple #[.agg #[.int .i64 s, .int .i64 uu, .int .i64 vv, .int .i64 xx], .bool true]) ?hr rfl ?_
    case hr => rw [results_cell_tmp rfl]; go_simp
    rw [EL.out, EC.out, ED.out]
    exact ⟨rfl, ((((B2.out.setCell (p := ⟨_, 0, none⟩) (by simp) _).setCell (p := ⟨_, 1, none⟩) (by simp) _).setCell (p := ⟨_, 2, none⟩) (by simp) _).setCell (p := ⟨_, 3, none⟩) (by simp) _)⟩

set_option maxRecDepth 100000 in
set_option maxHeartbeats 2000000 in
theorem supd_no (a b c d s y : Int) (w : World) (h : ¬ uok a b c d s y) : Calls Try.prog 17 #[.agg #[.int .i64 a, .int .i64 b, .int .i64 c, .int .i64 d], .int .i64 s, .int .i64 y] w (UpdNo w) := by
  unfold UpdNo
  have R := Lib.hid ((R4.new w a b c d 24).alloc (.cells #[.int .i64 0, .int .i64 0, .int .i64 0, .int .i64 0] 24))
  have Z := Lib.hid (show R4 ((w.alloc (.cells #[.int .i64 a, .int .i64 b, .int .i64 c, .int .i64 d] 24)).alloc (.cells #[.int .i64 0, .int .i64 0, .int .i64 0, .int .i64 0] 24)) (w.heap.size + 1) 0 0 0 0 by have k := R4.new (w.alloc (.cells #[.int .i64 a, .int .i64 b, .int .i64 c, .int .i64 d] 24)) 0 0 0 0 24; simpa using k)
  have B := Lib.hid (((Below.refl w.heap.size w).alloc (Nat.le_refl _) (.cells #[.int .i64 a, .int .i64 b, .int .i64 c, .int .i64 d] 24)).alloc (by simp) (.cells #[.int .i64 0, .int .i64 0, .int .i64 0, .int .i64 0] 24))
  obtain ⟨q1, h1⟩ : ∃ q, decide (rok a b c d) = q := ⟨_, rfl⟩
  obtain ⟨q2, h2⟩ : ∃ q, decide (1 ≤ s ∧ s ≤ 999) = q := ⟨_, rfl⟩
  obtain ⟨q3, h3⟩ : ∃ q, decide (0 ≤ y ∧ y ≤ 999) = q := ⟨_, rfl⟩
  have HV := Lib.hid h1
  have H2 := Lib.hid h2
  have H3 := Lib.hid h3
  cases q1
  case false =>
    clear h1 h2 h3 h
    have cc := R.out
    obtain ⟨c0, c1, c2, c3, fz⟩ := cc
    go_enter Try.func17, Try.ntmps17
    go_wp2_with fail
    refine (svalid_any a b c d _).mono ?_
    rw [HV.out]
    rintro e w1 ⟨rfl, hb1⟩
    have R1 := Lib.hid (R.out.below hb1 (by simp; omega))
    have Z1 := Lib.hid (Z.out.below hb1 (by simp))
    have B1 := Lib.hid (B.out.trans (hb1.mono (by simp; omega)))
    clear hb1 c0 c1 c2 c3 fz
    obtain ⟨c0, c1, c2, c3, fz⟩ := id R1.out
    obtain ⟨g0, g1, g2, g3, gz⟩ := id Z1.out
    have gz0 := gz 0
    have gz1 := gz 1
    have gz2 := gz 2
    have gz3 := gz 3
    go_wp2_with (first | (go_at_call 39; (with_reducible refine (l6In_any _ _ _ _).mono ?_); (first | rw [H2.out] | rw [H3.out]); rintro e w' ⟨rfl, rfl⟩))
    refine bodyPost_ret (v := .tuple #[.agg #[.int .i64 0, .int .i64 0, .int .i64 0, .int .i64 0], .bool false]) ?hr rfl ?_
    case hr => rw [results_cell_tmp rfl]; go_simp
    exact ⟨rfl, ((((B1.out.setCell (p := ⟨_, 0, none⟩) (by simp) _).setCell (p := ⟨_, 1, none⟩) (by simp) _).setCell (p := ⟨_, 2, none⟩) (by simp) _).setCell (p := ⟨_, 3, none⟩) (by simp) _)⟩
  cases q2
  case false =>
    clear h1 h2 h3 h
    have cc := R.out
    obtain ⟨c0, c1, c2, c3, fz⟩ := cc
    go_enter Try.func17, Try.ntmps17
    go_wp2_with fail
    refine (svalid_any a b c d _).mono ?_
    rw [HV.out]
    rintro e w1 ⟨rfl, hb1⟩
    have R1 := Lib.hid (R.out.below hb1 (by simp; omega))
    have Z1 := Lib.hid (Z.out.below hb1 (by simp))
    have B1 := Lib.hid (B.out.trans (hb1.mono (by simp; omega)))
    clear hb1 c0 c1 c2 c3 fz
    obtain ⟨c0, c1, c2, c3, fz⟩ := id R1.out
    obtain ⟨g0, g1, g2, g3, gz⟩ := id Z1.out
    have gz0 := gz 0
    have gz1 := gz 1
    have gz2 := gz 2
    have gz3 := gz 3
    go_wp2_with (first | (go_at_call 39; (with_reducible refine (l6In_any _ _ _ _).mono ?_); (first | rw [H2.out] | rw [H3.out]); rintro e w' ⟨rfl, rfl⟩))
    refine bodyPost_ret (v := .tuple #[.agg #[.int .i64 0, .int .i64 0, .int .i64 0, .int .i64 0], .bool false]) ?hr rfl ?_
    case hr => rw [results_cell_tmp rfl]; go_simp
    exact ⟨rfl, ((((B1.out.setCell (p := ⟨_, 0, none⟩) (by simp) _).setCell (p := ⟨_, 1, none⟩) (by simp) _).setCell (p := ⟨_, 2, none⟩) (by simp) _).setCell (p := ⟨_, 3, none⟩) (by simp) _)⟩
  cases q3
  case false =>
    clear h1 h2 h3 h
    have cc := R.out
    obtain ⟨c0, c1, c2, c3, fz⟩ := cc
    go_enter Try.func17, Try.ntmps17
    go_wp2_with fail
    refine (svalid_any a b c d _).mono ?_
    rw [HV.out]
    rintro e w1 ⟨rfl, hb1⟩
    have R1 := Lib.hid (R.out.below hb1 (by simp; omega))
    have Z1 := Lib.hid (Z.out.below hb1 (by simp))
    have B1 := Lib.hid (B.out.trans (hb1.mono (by simp; omega)))
    clear hb1 c0 c1 c2 c3 fz
    obtain ⟨c0, c1, c2, c3, fz⟩ := id R1.out
    obtain ⟨g0, g1, g2, g3, gz⟩ := id Z1.out
    have gz0 := gz 0
    have gz1 := gz 1
    have gz2 := gz 2
    have gz3 := gz 3
    go_wp2_with (first | (go_at_call 39; (with_reducible refine (l6In_any _ _ _ _).mono ?_); (first | rw [H2.out] | rw [H3.out]); rintro e w' ⟨rfl, rfl⟩))
    refine bodyPost_ret (v := .tuple #[.agg #[.int .i64 0, .int .i64 0, .int .i64 0, .int .i64 0], .bool false]) ?hr rfl ?_
    case hr => rw [results_cell_tmp rfl]; go_simp
    exact ⟨rfl, ((((B1.out.setCell (p := ⟨_, 0, none⟩) (by simp) _).setCell (p := ⟨_, 1, none⟩) (by simp) _).setCell (p := ⟨_, 2, none⟩) (by simp) _).setCell (p := ⟨_, 3, none⟩) (by simp) _)⟩
  exact absurd ⟨of_decide_eq_true h1, of_decide_eq_true h2, of_decide_eq_true h3⟩ h

set_option maxRecDepth 100000 in
set_option maxHeartbeats 2000000 in
theorem supd_yes (a b c d s y : Int) (w : World) (h : uok a b c d s y) : Calls Try.prog 17 #[.agg #[.int .i64 a, .int .i64 b, .int .i64 c, .int .i64 d], .int .i64 s, .int .i64 y] w (UpdYes a b c d s y w) := by
  unfold UpdYes
  have R := Lib.hid ((R4.new w a b c d 24).alloc (.cells #[.int .i64 0, .int .i64 0, .int .i64 0, .int .i64 0] 24))
  have Z := Lib.hid (show R4 ((w.alloc (.cells #[.int .i64 a, .int .i64 b, .int .i64 c, .int .i64 d] 24)).alloc (.cells #[.int .i64 0, .int .i64 0, .int .i64 0, .int .i64 0] 24)) (w.heap.size + 1) 0 0 0 0 by have k := R4.new (w.alloc (.cells #[.int .i64 a, .int .i64 b, .int .i64 c, .int .i64 d] 24)) 0 0 0 0 24; simpa using k)
  have B := Lib.hid (((Below.refl w.heap.size w).alloc (Nat.le_refl _) (.cells #[.int .i64 a, .int .i64 b, .int .i64 c, .int .i64 d] 24)).alloc (by simp) (.cells #[.int .i64 0, .int .i64 0, .int .i64 0, .int .i64 0] 24))
  have HU := Lib.hid h
  have HV := Lib.hid (decide_eq_true h.1)
  have H2 := Lib.hid (decide_eq_true h.2.1)
  have H3 := Lib.hid (decide_eq_true h.2.2)
  clear h
  obtain ⟨uu, hu⟩ : ∃ z, uL a b s = z := ⟨_, rfl⟩
  obtain ⟨vv, hv⟩ : ∃ z, uC a b c s y = z := ⟨_, rfl⟩
  obtain ⟨xx, hx⟩ : ∃ z, uD a b c d s y = z := ⟨_, rfl⟩
  have LU := Lib.hid (fun W : World => l21_any a b c d s y W HU.out)
  rw [hu, hv, hx] at LU
  rw [hu, hv, hx]
  clear hu hv hx
  have cc := R.out
  obtain ⟨c0, c1, c2, c3, fz⟩ := cc
  go_enter Try.func17, Try.ntmps17
  go_wp2_with fail
  refine (svalid_any a b c d _).mono ?_
  rw [HV.out]
  rintro e w1 ⟨rfl, hb1⟩
  have R1 := Lib.hid (R.out.below hb1 (by simp; omega))
  have Z1 := Lib.hid (Z.out.below hb1 (by simp))
  have B1 := Lib.hid (B.out.trans (hb1.mono (by simp; omega)))
  clear hb1 c0 c1 c2 c3 fz
  obtain ⟨c0, c1, c2, c3, fz⟩ := id R1.out
  obtain ⟨g0, g1, g2, g3, gz⟩ := id Z1.out
  have gz0 := gz 0
  have gz1 := gz 1
  have gz2 := gz 2
  have gz3 := gz 3
  go_wp2_with (first | (go_at_call 39; (with_reducible refine (l6In_any _ _ _ _).mono ?_); (first | rw [H2.out] | rw [H3.out]); rintro e w' ⟨rfl, rfl⟩))
  refine (LU.out _).mono ?_
  rintro e w2 ⟨rfl, hb2⟩
  have Z2 := Lib.hid (Z1.out.below hb2 Z1.out.lt)
  have B2 := Lib.hid (B1.out.trans (hb2.mono B1.out.size))
  clear hb2 c0 c1 c2 c3 fz g0 g1 g2 g3 gz gz0 gz1 gz2 gz3
  obtain ⟨g0, g1, g2, g3, gz⟩ := id Z2.out
  have gz0 := gz 0
  have gz1 := gz 1
  have gz2 := gz 2
  have gz3 := gz 3
  go_wp2_with fail
  refine bodyPost_ret (v := .tuple #[.agg #[.int .i64 s, .int .i64 uu, .int .i64 vv, .int .i64 xx], .bool true]) ?hr rfl ?_
  case hr => rw [results_cell_tmp rfl]; go_simp
  exact ⟨rfl, ((((B2.out.setCell (p := ⟨_, 0, none⟩) (by simp) _).setCell (p := ⟨_, 1, none⟩) (by simp) _).setCell (p := ⟨_, 2, none⟩) (by simp) _).setCell (p := ⟨_, 3, none⟩) (by simp) _)⟩

end Go.Proofs.Ytlhjhdlpejpooaa
