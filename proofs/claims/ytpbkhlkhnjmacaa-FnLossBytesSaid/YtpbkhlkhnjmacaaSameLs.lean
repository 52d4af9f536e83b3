/- What laws share: sameLoss at equal states; hasInt; inFlight. -/
import Derived.Test.YtpbkhlkhnjmacaaLaMath
import Derived.Test.YtpbkhlkhnjmacaaPk
import Derived.Test.YtpbkhlkhnjmacaaInts
import Derived.BigQuiet
import Derived.Deep.QuietTactic
import Derived.Deep.Draws
namespace Go.Proofs.Ytpbkhlkhnjmacaa
open Go.RowKit
set_option linter.unusedVariables false
set_option linter.unusedSimpArgs false

/-- A call that says true and leaves alone what was there. -/
def Yes (w : World) (e : Ending) (w' : World) : Prop := e = .returned (.bool true) ∧ Below w.heap.size w w'
set_option maxRecDepth 100000 in
set_option maxHeartbeats 4000000 in
theorem samels_any (n g : Int) (u v : Value) (l : List Pk) (w : World) (h1 : Pks w u l) (h2 : Pks w v l) (hl : l.length ≤ 1048576) :
    Calls Try.prog 17 #[.agg #[.int .i64 n, u, .int .i64 g], .agg #[.int .i64 n, v, .int .i64 g]] w (Yes w) := by
  obtain ⟨a1, c1, rfl, _, h1⟩ := h1
  obtain ⟨a2, c2, rfl, _, h2⟩ := h2
  have H1 := Lib.hid h1
  have H2 := Lib.hid h2
  clear h1 h2
  have e1 : (w.alloc (.cells #[.int .i64 n, .slice a1 l.length c1, .int .i64 g] 25)).heap.size = w.heap.size + 1 := by simp
  have B0 := Lib.hid (((Below.refl w.heap.size w).alloc (Nat.le_refl _) (.cells #[.int .i64 n, .slice a1 l.length c1, .int .i64 g] 25)).alloc (by simp) (.cells #[.int .i64 n, .slice a2 l.length c2, .int .i64 g] 25))
  have R1 := Lib.hid ((C3.new w (.int .i64 n) (.slice a1 l.length c1) (.int .i64 g) 25).alloc (.cells #[.int .i64 n, .slice a2 l.length c2, .int .i64 g] 25))
  have R2 := Lib.hid (C3.new (w.alloc (.cells #[.int .i64 n, .slice a1 l.length c1, .int .i64 g] 25)) (.int .i64 n) (.slice a2 l.length c2) (.int .i64 g) 25)
  rw [e1] at R2
  clear e1
  obtain ⟨W0, hW0⟩ : ∃ W0, (w.alloc (.cells #[.int .i64 n, .slice a1 l.length c1, .int .i64 g] 25)).alloc (.cells #[.int .i64 n, .slice a2 l.length c2, .int .i64 g] 25) = W0 := ⟨_, rfl⟩
  rw [hW0] at B0 R1 R2
  have HW0 := Lib.hid hW0
  clear hW0
  go_enter Try.func17, Try.ntmps17
  go_wp2_with fail
  rw [HW0.out]
  obtain ⟨q0, q1, q2⟩ := R1.out
  obtain ⟨r0, r1, r2⟩ := R2.out
  go_wp2_with fail
  clear q0 q1 q2 r0 r1 r2
  go_loopw [5] (fun iv wr => ∃ j : Nat, j ≤ l.length ∧ iv = .int .i64 (j : Int) ∧ Hid (Below w.heap.size w wr) ∧ Hid (C3 wr w.heap.size (.int .i64 n) (.slice a1 l.length c1) (.int .i64 g)) ∧ Hid (C3 wr (w.heap.size + 1) (.int .i64 n) (.slice a2 l.length c2) (.int .i64 g))) (fun iv _ => l.length - (intOf iv).toNat)
  case atStart => exact ⟨0, Nat.zero_le _, rfl, B0, R1, R2⟩
  case round =>
    obtain ⟨j, hj, rfl, HB, HR1, HR2⟩ := hrel
    obtain ⟨q0, q1, q2⟩ := HR1.out
    obtain ⟨r0, r1, r2⟩ := HR2.out
    by_cases hlt : j < l.length
    · have hlt' : (j : Int) < (l.length : Int) := by omega
      obtain ⟨g1, o1, rfl, hc⟩ := H1.out (by rintro rfl; simp at hlt)
      obtain ⟨g2, o2, rfl, hc'⟩ := H2.out (by rintro rfl; simp at hlt)
      obtain ⟨d0, d1, d2⟩ := (hc j hlt).below HB.out (hc j hlt).lt
      obtain ⟨e0, e1, e2⟩ := (hc' j hlt).below HB.out (hc' j hlt).lt
      clear hc hc'
      generalize l.getD j pkD = p at *
      obtain ⟨p1, p2, p3⟩ := p
      simp only at d0 d1 d2 e0 e1 e2
      go_wp2_with fail
      go_quiet (fail)
      have HB2 := Lib.hid (below_drewN' HB.out nq)
      have HR3 := Lib.hid (HR1.out.below (below_drewN' (Below.refl _ _) nq))
      have HR4 := Lib.hid (HR2.out.below (below_drewN' (Below.refl _ _) nq))
      go_wp2_with fail
      go_roundw
      case rel => exact ⟨j + 1, by omega, by go_num, HB2, HR3, HR4⟩
      case measure => simp [intOf]; omega
    · have hlt' : ¬ (j : Int) < (l.length : Int) := by omega
      have hd := decide_eq_false hlt'
      go_wp2_with fail
      go_ret
      exact ⟨rfl, HB.out⟩

theorem takeIx (k : List Int) (j : Nat) (h : j < k.length) : k.take (j + 1) = k.take j ++ [k.getD j 0] ∧ k.getD j 0 ∈ k := by
  rw [List.getD_eq_getElem?_getD, List.getElem?_eq_getElem h]
  exact ⟨by rw [List.take_add_one, List.getElem?_eq_getElem h]; rfl, List.getElem_mem h⟩
set_option maxRecDepth 100000 in
set_option maxHeartbeats 1000000 in
theorem hasint_any (v : Value) (k : List Int) (n : Int) (w : World) (h : Ints w v k) (hl : k.length ≤ 1048576) : Calls Try.prog 29 #[v, .int .i64 n] w fun e w' => e = .returned (.bool (decide (n ∈ k))) ∧ Below w.heap.size w w' := by
  obtain ⟨a, c, rfl, h⟩ := h
  have HC := Lib.hid h
  clear h
  go_enter Try.func29, Try.ntmps29
  go_wp2_with fail
  go_loopw [5] (fun iv wr => ∃ j : Nat, j ≤ k.length ∧ iv = .int .i64 (j : Int) ∧ Hid (n ∉ k.take j) ∧ Hid (Below w.heap.size w wr)) (fun iv _ => k.length - (intOf iv).toNat)
  case atStart => exact ⟨0, Nat.zero_le _, rfl, Lib.hid (by simp), Lib.hid (Below.refl _ _)⟩
  case round =>
    obtain ⟨j, hj, rfl, HS, HB⟩ := hrel
    by_cases hlt : j < k.length
    · have hlt' : (j : Int) < (k.length : Int) := by omega
      obtain ⟨g, o, rfl, hc⟩ := HC.out (by rintro rfl; simp at hlt)
      have hcj := hc j hlt
      have e1 : wr.cell? ⟨g, o + j, none⟩ = some (.int .i64 (k.getD j 0)) := (HB.out.cell (World.block_lt_of_cell? w _ hcj)).trans hcj
      have HT := Lib.hid (takeIx k j hlt)
      clear hc hcj
      generalize k.getD j 0 = x at *
      by_cases hx : x = n
      · have HX := Lib.hid hx
        have hb : (x == n) = true := by rw [hx]; exact beq_self_eq_true n
        clear hx
        go_wp2_with fail
        go_ret
        exact ⟨ret_bool (decide_eq_true (by rw [← HX.out]; exact HT.out.2)).symm, HB.out⟩
      · have hb : (x == n) = false := by rw [beq_eq_false_iff_ne]; exact hx
        have HN : Hid (n ∉ k.take (j + 1)) := Lib.hid (by
          rw [HT.out.1]; intro hm
          rcases List.mem_append.1 hm with hm | hm
          · exact HS.out hm
          · rw [List.mem_singleton] at hm; exact hx hm.symm)
        go_wp2_with fail
        go_roundw
        case rel => exact ⟨j + 1, by omega, by go_num, HN, HB⟩
        case measure => simp [intOf]; omega
    · have hlt' : ¬ (j : Int) < (k.length : Int) := by omega
      have hjl : j = k.length := by omega
      have HE : Hid (n ∉ k) := Lib.hid (by have := HS.out; rw [hjl, List.take_length] at this; exact this)
      clear hjl
      go_wp2_with fail
      go_ret
      exact ⟨ret_bool (decide_eq_false HE.out).symm, HB.out⟩



set_option maxRecDepth 100000 in
set_option maxHeartbeats 2000000 in
theorem infl_any (n g x : Int) (v : Value) (l : List Pk) (w : World) (h : Pks w v l) (hl : l.length ≤ 1048576) : Calls Try.prog 30 #[.agg #[.int .i64 n, v, .int .i64 g], .int .i64 x] w fun e w' => e = .returned (.bool (decide (x ∈ l.map (·.1)))) ∧ Below w.heap.size w w' := by
  obtain ⟨a, c, rfl, _, h⟩ := h
  have HC := Lib.hid h
  clear h
  have X := Lib.hid (C3.new w (.int .i64 n) (.slice a l.length c) (.int .i64 g) 25)
  have B := Lib.hid ((Below.refl w.heap.size w).alloc (Nat.le_refl _) (.cells #[.int .i64 n, .slice a l.length c, .int .i64 g] 25))
  obtain ⟨W1, hW1⟩ : ∃ W1, w.alloc (.cells #[.int .i64 n, .slice a l.length c, .int .i64 g] 25) = W1 := ⟨_, rfl⟩
  rw [hW1] at X B
  have HW1 := Lib.hid hW1
  clear hW1
  go_enter Try.func30, Try.ntmps30
  go_wp2_with fail
  rw [HW1.out]
  go_loopw [5] (fun iv wr => ∃ j : Nat, j ≤ l.length ∧ iv = .int .i64 (j : Int) ∧ Hid (x ∉ (l.take j).map (·.1)) ∧ Hid (Below w.heap.size w wr) ∧ Hid (C3 wr w.heap.size (.int .i64 n) (.slice a l.length c) (.int .i64 g))) (fun iv _ => l.length - (intOf iv).toNat)
  case atStart => exact ⟨0, Nat.zero_le _, rfl, Lib.hid (by simp), B, X⟩
  case round =>
    obtain ⟨j, hj, rfl, HS, HB, HX⟩ := hrel
    obtain ⟨x0, x1, x2⟩ := HX.out
    by_cases hlt : j < l.length
    · have hlt' : (j : Int) < (l.length : Int) := by omega
      obtain ⟨gb, o, rfl, hc⟩ := HC.out (by rintro rfl; simp at hlt)
      obtain ⟨d0, d1, d2⟩ := (hc j hlt).below HB.out (hc j hlt).lt
      have HT := Lib.hid (takeP l j hlt)
      clear hc d1 d2
      generalize l.getD j pkD = p at *
      obtain ⟨p1, p2, p3⟩ := p
      simp only at d0
      have hwj : IntKind.i64.wrap ((j : Int) + 1) = ((j + 1 : Nat) : Int) := by rw [IntWalk.i64_in _ (by omega)]; omega
      by_cases hx : p1 = x
      · have HM := Lib.hid (decide_eq_true (show x ∈ l.map (·.1) from List.mem_map.2 ⟨(p1, p2, p3), HT.out.2, hx⟩))
        have hb : (p1 == x) = true := by rw [hx]; exact beq_self_eq_true x
        clear hx
        go_wp2_with fail
        go_ret
        exact ⟨ret_bool HM.out.symm, HB.out⟩
      · have hb : (p1 == x) = false := by rw [beq_eq_false_iff_ne]; exact hx
        have HN : Hid (x ∉ (l.take (j + 1)).map (·.1)) := Lib.hid (by
          rw [HT.out.1, List.map_append]; intro hm
          rcases List.mem_append.1 hm with hm | hm
          · exact HS.out hm
          · simp only [List.map_cons, List.map_nil, List.mem_singleton] at hm; exact hx hm.symm)
        clear hx
        go_wp2_with fail
        go_roundw
        case rel => exact ⟨j + 1, by omega, by go_num, HN, HB, HX⟩
        case measure => simp [intOf]; omega
    · have hlt' : ¬ (j : Int) < (l.length : Int) := by omega
      have hdl := decide_eq_false hlt'
      have hjl : j = l.length := by omega
      have HE : Hid (x ∉ l.map (·.1)) := Lib.hid (by have := HS.out; rw [hjl, List.take_length] at this; exact this)
      clear hjl
      go_wp2_with fail
      go_ret
      exact ⟨ret_bool (decide_eq_false HE.out).symm, HB.out⟩



/-- A state in a variable at block b. -/
structure SV (W : World) (b : Nat) (n g : Int) (v : Value) (l : List Pk) : Prop where
  c : C3 W b (.int .i64 n) v (.int .i64 g)
  k : Pks W v l
  nil : NilOk v
theorem SV.below {W W' : World} {b : Nat} {n g : Int} {v : Value} {l : List Pk} (h : SV W b n g v l) (hb : Below W.heap.size W W') : SV W' b n g v l := ⟨h.c.below hb, h.k.below hb, h.nil⟩
theorem SV.new {w : World} {n g : Int} {v : Value} {l : List Pk} (h : Pks w v l) (hn : NilOk v) (T : TypeId) : SV (w.alloc (.cells #[.int .i64 n, v, .int .i64 g] T)) w.heap.size n g v l := ⟨C3.new w _ v _ T, h.below (below_al _ _), hn⟩
theorem SV.own {w : World} {B : Nat} {n g : Int} {v : Value} {l : List Pk} (h : OwnPk w B v l) (T : TypeId) : SV (w.alloc (.cells #[.int .i64 n, v, .int .i64 g] T)) w.heap.size n g v l := SV.new h.pks h.nilok T
theorem bup {w W W' : World} (h : Below w.heap.size w W) (k : Below W.heap.size W W') : Below w.heap.size w W' := h.trans (k.mono h.size)

end Go.Proofs.Ytpbkhlkhnjmacaa
