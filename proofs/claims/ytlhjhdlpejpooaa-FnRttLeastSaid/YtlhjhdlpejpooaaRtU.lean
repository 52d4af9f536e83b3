/- RttUpdate: the contracts, the program's and the model's. -/
import Derived.Test.YtlhjhdlpejpooaaRtV
import Derived.Laws.ResultCell
namespace Go.Proofs.Ytlhjhdlpejpooaa
open Go.RowKit
set_option linter.unusedVariables false
set_option linter.unusedSimpArgs false

theorem results_cell_one {fn : Func} {p : Tmp} {ty : TypeId} (h : fn.results = #[.cell p ty]) (tmps : Array Value) (P : Program) (w : World) :
    (results fn tmps).run P w = ((asAddr (tmps.getD p undef)).run P w).andThen fun a w₁ => (loadVar ty a).run P w₁ := by
  simp only [results, h]
  simp [Sem.run_bind, Result.andThen]

set_option maxRecDepth 100000 in
set_option maxHeartbeats 1000000 in
theorem abs_any (n : Int) (w : World) (h : -100000 ≤ n ∧ n ≤ 100000) : Calls Try.prog 50 #[.int .i64 n] w fun e w' => e = .returned (.int .i64 (max n (-n))) ∧ w = w' := by
  obtain ⟨h1, h2⟩ := h
  by_cases h0 : n < 0
  · have HV := Lib.hid (show max n (-n) = -n by omega)
    have hw : IntKind.i64.wrap (-n) = -n := IntWalk.i64_in _ (by omega)
    go_enter Try.func50, Try.ntmps50
    go_wp2
    go_ret
    exact ⟨ret_int HV.out.symm, rfl⟩
  · have HV := Lib.hid (show max n (-n) = n by omega)
    go_enter Try.func50, Try.ntmps50
    go_wp2
    go_ret
    exact ⟨ret_int HV.out.symm, rfl⟩

def uok (a b c d s y : Int) : Prop := rok a b c d ∧ (1 ≤ s ∧ s ≤ 999) ∧ 0 ≤ y ∧ y ≤ 999
instance (a b c d s y : Int) : Decidable (uok a b c d s y) := by unfold uok; infer_instance

set_option maxRecDepth 100000 in
set_option maxHeartbeats 2000000 in
theorem l21_any (a b c d s y : Int) (w : World) (h : uok a b c d s y) : Calls Try.prog 40 #[.agg #[.int .i64 a, .int .i64 b, .int .i64 c, .int .i64 d], .int .i64 s, .int .i64 y] w fun e w' => e = .returned (.agg #[.int .i64 s, .int .i64 (uL a b s), .int .i64 (uC a b c s y), .int .i64 (uD a b c d s y)]) ∧ Below w.heap.size w w' := by
  obtain ⟨hr, ⟨h1, h2⟩, h3, h4⟩ := h
  have R := Lib.hid (R4.new w a b c d 24)
  have B := Lib.hid ((Below.refl w.heap.size w).alloc (Nat.le_refl _) (.cells #[.int .i64 a, .int .i64 b, .int .i64 c, .int .i64 d] 24))
  by_cases ha : a = 0
  · have hz := (rz_iff hr).mpr ha
    obtain ⟨rfl, rfl, rfl, rfl⟩ := hz
    have EL : Hid (uL 0 0 s = s) := Lib.hid rfl
    have EC : Hid (uC 0 0 0 s y = 8 * s) := Lib.hid rfl
    have ED : Hid (uD 0 0 0 0 s y = 2 * s) := Lib.hid rfl
    have R' := R.out
    obtain ⟨c0, c1, c2, c3, fz⟩ := R'
    clear ha hr
    go_enter Try.func40, Try.ntmps40
    go_wp2_with fail
    refine bodyPost_ret (v := .agg #[.int .i64 s, .int .i64 s, .int .i64 (8 * s), .int .i64 (2 * s)]) ?hr rfl ?_
    case hr => rw [results_cell_one rfl]; go_simp
    rw [EL.out, EC.out, ED.out]
    exact ⟨rfl, ((Below.refl _ _).alloc (Nat.le_refl _) _).alloc (by simp) _⟩
  obtain ⟨⟨k1, k2⟩, ⟨k3, k4⟩, ⟨k5, k6⟩, k7, k8⟩ : rs a b c d := by
    rcases hr with h | h
    · exact absurd h.1 ha
    · exact h
  clear hr
  have ha' : (a == 0) = false := by rw [beq_eq_false_iff_ne]; exact ha
  obtain ⟨m, hm⟩ : ∃ m, (if s < b then s else b) = m := ⟨_, rfl⟩
  have hm1 : min b s = m := by rw [← hm]; split <;> omega
  have hm2 : 1 ≤ m := by omega
  have hm3 : m ≤ s := by omega
  have HU := Lib.hid (show un b s y = if s - y < m then s else s - y by unfold un; rw [hm1])
  have HM := Lib.hid (show uL a b s = m by unfold uL; rw [if_neg ha, hm1])
  have HC := Lib.hid (show uC a b c s y = c - c / 8 + un b s y by unfold uC; rw [if_neg ha])
  have HDD := Lib.hid (show uD a b c d s y = d - d / 4 + max (c / 8 - un b s y) (un b s y - c / 8) by unfold uD; rw [if_neg ha])
  clear hm1 ha
  have c83 : 1 ≤ c / 8 := by omega
  have c84 : c / 8 ≤ 999 := by omega
  have d41 : 0 ≤ d / 4 := by omega
  have d42 : d / 4 ≤ 1000 := by omega
  have R' := R.out
  obtain ⟨c0, c1, c2, c3, fz⟩ := R'
  by_cases hn : s - y < m
  · have HN := Lib.hid (show un b s y = s by rw [HU.out, if_pos hn])
    clear HU
    have hn1 : 1 ≤ s := by omega
    have hn2 : s ≤ 999 := by omega
    obtain ⟨o, ho⟩ : ∃ o, c / 8 - s = o := ⟨_, rfl⟩
    have HO : Hid (max (c / 8 - s) (s - c / 8) = max o (-o)) := Lib.hid (by omega)
    have H8 := Lib.hid (show IntKind.i64.wrap (c / 8 - s) = o by rw [ho]; exact IntWalk.i64_in _ (by omega))
    have CA : Hid (∀ W : World, Calls Try.prog 50 #[.int .i64 (c / 8 - s)] W fun e w' => e = .returned (.int .i64 (max o (-o))) ∧ w' = W) := Lib.hid fun W => (abs_any (c / 8 - s) W (by omega)).mono fun e w' h => ⟨by rw [h.1, ho], h.2.symm⟩
    have hx1 : 0 ≤ max o (-o) := by omega
    have hx2 : max o (-o) ≤ 1000 := by omega
    obtain ⟨x, hx⟩ : ∃ x, max o (-o) = x := ⟨_, rfl⟩
    rw [hx] at hx1 hx2 HO CA
    clear hx ho
    go_enter Try.func40, Try.ntmps40
    go_wp2_with fail
    refine wp_region_still_tail 13 (by kernel_rfl) (by kernel_rfl) ?_
    obtain ⟨W1, hW1⟩ : ∃ W1, (((w.alloc (.cells #[.int .i64 a, .int .i64 b, .int .i64 c, .int .i64 d] 24)).alloc (.cells #[.int .i64 0, .int .i64 0, .int .i64 0, .int .i64 0] 24)).alloc (.cells #[.int .i64 s, .int .i64 m, .int .i64 0, .int .i64 0] 24)) = W1 := ⟨_, rfl⟩
    have R0 := Lib.hid (show R4 W1 w.heap.size a b c d by rw [← hW1]; exact (R.out.alloc _).alloc _)
    have R1 := Lib.hid (show R4 W1 (w.heap.size + 1) 0 0 0 0 by rw [← hW1]; have k := (R4.new (w.alloc (.cells #[.int .i64 a, .int .i64 b, .int .i64 c, .int .i64 d] 24)) 0 0 0 0 24).alloc (.cells #[.int .i64 s, .int .i64 m, .int .i64 0, .int .i64 0] 24); simpa using k)
    have R2 := Lib.hid (show R4 W1 (w.heap.size + 1 + 1) s m 0 0 by rw [← hW1]; have k := R4.new ((w.alloc (.cells #[.int .i64 a, .int .i64 b, .int .i64 c, .int .i64 d] 24)).alloc (.cells #[.int .i64 0, .int .i64 0, .int .i64 0, .int .i64 0] 24)) s m 0 0 24; simpa using k)
    have B1 := Lib.hid (show Below w.heap.size w W1 by rw [← hW1]; exact (B.out.alloc (by simp) _).alloc (by simp; omega) _)
    rw [hW1]
    obtain ⟨W2, hW2⟩ : ∃ W2, ({ W1 with drawn := W1.drawn + 1 } : World) = W2 := ⟨_, rfl⟩
    have S0 := Lib.hid (show R4 W2 w.heap.size a b c d by rw [← hW2]; exact R0.out.drew 1)
    have S1 := Lib.hid (show R4 W2 (w.heap.size + 1) 0 0 0 0 by rw [← hW2]; exact R1.out.drew 1)
    have S2 := Lib.hid (show R4 W2 (w.heap.size + 1 + 1) s m 0 0 by rw [← hW2]; exact R2.out.drew 1)
    have B2 := Lib.hid (show Below w.heap.size w W2 by rw [← hW2]; exact below_drewN B1.out 1)
    rw [hW2]
    clear hW1 hW2 R0 R1 R2 B1 R B c0 c1 c2 c3 fz
    obtain ⟨c0, c1, c2, c3, fz⟩ := id S0.out
    have HD : Hid (IntKind.i64.wrap (d.tdiv 4) = d / 4) := Lib.hid (by rw [Int.tdiv_eq_ediv_of_nonneg k7]; exact IntWalk.i64_in _ (by omega))
    have HC8 : Hid (IntKind.i64.wrap (c.tdiv 8) = c / 8) := Lib.hid (by rw [Int.tdiv_eq_ediv_of_nonneg (by omega)]; exact IntWalk.i64_in _ (by omega))
    have hd4 := HD.out
    have hc8 := HC8.out
    have hd5 : IntKind.i64.wrap (d - d / 4) = d - d / 4 := IntWalk.i64_in _ (by omega)
    have hd6 : IntKind.i64.wrap (c / 8 - s) = c / 8 - s := IntWalk.i64_in _ (by omega)
    have hd7 : IntKind.i64.wrap (d - d / 4 + x) = d - d / 4 + x := IntWalk.i64_in _ (by omega)
    simp only [List.take_succ_cons, List.take_zero, List.drop_succ_cons, List.drop_zero]
    iterate 11 still_step
    still_call (CA.out _)
    iterate 1 still_step
    refine wpStill_nil ?_
    obtain ⟨e0, e1, e2, e3, ez⟩ := id S2.out
    have f3 := ez 3
    have f2 := ez 2
    obtain ⟨g0, g1, g2, g3, gz⟩ := id S1.out
    have gz0 := gz 0
    have gz1 := gz 1
    have gz2 := gz 2
    have gz3 := gz 3
    go_wp2_with fail
    refine bodyPost_ret (v := .agg #[.int .i64 s, .int .i64 m, .int .i64 (c - c / 8 + s), .int .i64 (d - d / 4 + x)]) ?hr rfl ?_
    case hr => rw [results_cell_one rfl]; go_simp
    rw [HM.out, HC.out, HDD.out, HN.out, HO.out]
    exact ⟨rfl, (((((B2.out.setCell (p := ⟨_, 3, none⟩) (by simp; omega) _).setCell (p := ⟨_, 2, none⟩) (by simp; omega) _).setCell (p := ⟨_, 0, none⟩) (by simp) _).setCell (p := ⟨_, 1, none⟩) (by simp) _).setCell (p := ⟨_, 2, none⟩) (by simp) _).setCell (p := ⟨_, 3, none⟩) (by simp) _⟩
  · have HN := Lib.hid (show un b s y = s - y by rw [HU.out, if_neg hn])
    clear HU
    have hn1 : 1 ≤ (s - y) := by omega
    have hn2 : (s - y) ≤ 999 := by omega
    obtain ⟨o, ho⟩ : ∃ o, c / 8 - (s - y) = o := ⟨_, rfl⟩
    have HO : Hid (max (c / 8 - (s - y)) ((s - y) - c / 8) = max o (-o)) := Lib.hid (by omega)
    have H8 := Lib.hid (show IntKind.i64.wrap (c / 8 - (s - y)) = o by rw [ho]; exact IntWalk.i64_in _ (by omega))
    have CA : Hid (∀ W : World, Calls Try.prog 50 #[.int .i64 (c / 8 - (s - y))] W fun e w' => e = .returned (.int .i64 (max o (-o))) ∧ w' = W) := Lib.hid fun W => (abs_any (c / 8 - (s - y)) W (by omega)).mono fun e w' h => ⟨by rw [h.1, ho], h.2.symm⟩
    have hx1 : 0 ≤ max o (-o) := by omega
    have hx2 : max o (-o) ≤ 1000 := by omega
    obtain ⟨x, hx⟩ : ∃ x, max o (-o) = x := ⟨_, rfl⟩
    rw [hx] at hx1 hx2 HO CA
    clear hx ho
    go_enter Try.func40, Try.ntmps40
    go_wp2_with fail
    refine wp_region_still_tail 13 (by kernel_rfl) (by kernel_rfl) ?_
    obtain ⟨W1, hW1⟩ : ∃ W1, (((w.alloc (.cells #[.int .i64 a, .int .i64 b, .int .i64 c, .int .i64 d] 24)).alloc (.cells #[.int .i64 0, .int .i64 0, .int .i64 0, .int .i64 0] 24)).alloc (.cells #[.int .i64 s, .int .i64 m, .int .i64 0, .int .i64 0] 24)) = W1 := ⟨_, rfl⟩
    have R0 := Lib.hid (show R4 W1 w.heap.size a b c d by rw [← hW1]; exact (R.out.alloc _).alloc _)
    have R1 := Lib.hid (show R4 W1 (w.heap.size + 1) 0 0 0 0 by rw [← hW1]; have k := (R4.new (w.alloc (.cells #[.int .i64 a, .int .i64 b, .int .i64 c, .int .i64 d] 24)) 0 0 0 0 24).alloc (.cells #[.int .i64 s, .int .i64 m, .int .i64 0, .int .i64 0] 24); simpa using k)
    have R2 := Lib.hid (show R4 W1 (w.heap.size + 1 + 1) s m 0 0 by rw [← hW1]; have k := R4.new ((w.alloc (.cells #[.int .i64 a, .int .i64 b, .int .i64 c, .int .i64 d] 24)).alloc (.cells #[.int .i64 0, .int .i64 0, .int .i64 0, .int .i64 0] 24)) s m 0 0 24; simpa using k)
    have B1 := Lib.hid (show Below w.heap.size w W1 by rw [← hW1]; exact (B.out.alloc (by simp) _).alloc (by simp; omega) _)
    rw [hW1]
    obtain ⟨W2, hW2⟩ : ∃ W2, ({ W1 with drawn := W1.drawn + 1 } : World) = W2 := ⟨_, rfl⟩
    have S0 := Lib.hid (show R4 W2 w.heap.size a b c d by rw [← hW2]; exact R0.out.drew 1)
    have S1 := Lib.hid (show R4 W2 (w.heap.size + 1) 0 0 0 0 by rw [← hW2]; exact R1.out.drew 1)
    have S2 := Lib.hid (show R4 W2 (w.heap.size + 1 + 1) s m 0 0 by rw [← hW2]; exact R2.out.drew 1)
    have B2 := Lib.hid (show Below w.heap.size w W2 by rw [← hW2]; exact below_drewN B1.out 1)
    rw [hW2]
    clear hW1 hW2 R0 R1 R2 B1 R B c0 c1 c2 c3 fz
    obtain ⟨c0, c1, c2, c3, fz⟩ := id S0.out
    have HD : Hid (IntKind.i64.wrap (d.tdiv 4) = d / 4) := Lib.hid (by rw [Int.tdiv_eq_ediv_of_nonneg k7]; exact IntWalk.i64_in _ (by omega))
    have HC8 : Hid (IntKind.i64.wrap (c.tdiv 8) = c / 8) := Lib.hid (by rw [Int.tdiv_eq_ediv_of_nonneg (by omega)]; exact IntWalk.i64_in _ (by omega))
    have hd4 := HD.out
    have hc8 := HC8.out
    have hd5 : IntKind.i64.wrap (d - d / 4) = d - d / 4 := IntWalk.i64_in _ (by omega)
    have hd6 : IntKind.i64.wrap (c / 8 - (s - y)) = c / 8 - (s - y) := IntWalk.i64_in _ (by omega)
    have hd7 : IntKind.i64.wrap (d - d / 4 + x) = d - d / 4 + x := IntWalk.i64_in _ (by omega)
    simp only [List.take_succ_cons, List.take_zero, List.drop_succ_cons, List.drop_zero]
    iterate 11 still_step
    still_call (CA.out _)
    iterate 1 still_step
    refine wpStill_nil ?_
    obtain ⟨e0, e1, e2, e3, ez⟩ := id S2.out
    have f3 := ez 3
    have f2 := ez 2
    obtain ⟨g0, g1, g2, g3, gz⟩ := id S1.out
    have gz0 := gz 0
    have gz1 := gz 1
    have gz2 := gz 2
    have gz3 := gz 3
    go_wp2_with fail
    refine bodyPost_ret (v := .agg #[.int .i64 s, .int .i64 m, .int .i64 (c - c / 8 + (s - y)), .int .i64 (d - d / 4 + x)]) ?hr rfl ?_
    case hr => rw [results_cell_one rfl]; go_simp
    rw [HM.out, HC.out, HDD.out, HN.out, HO.out]
    exact ⟨rfl, (((((B2.out.setCell (p := ⟨_, 3, none⟩) (by simp; omega) _).setCell (p := ⟨_, 2, none⟩) (by simp; omega) _).setCell (p := ⟨_, 0, none⟩) (by simp) _).setCell (p := ⟨_, 1, none⟩) (by simp) _).setCell (p := ⟨_, 2, none⟩) (by simp) _).setCell (p := ⟨_, 3, none⟩) (by simp) _⟩

end Go.Proofs.Ytlhjhdlpejpooaa
