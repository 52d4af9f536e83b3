/- Chapter 31, the program: RecvValid. -/
import Derived.Test.YthdhjjbgegcncaaIvH
import Derived.Test.YthdhjjbgegcncaaUpTo
import Derived.Test.YthdhjjbgegcncaaQvV
import Derived.BigQuiet
namespace Go.Proofs.Ythdhjjbgegcncaa
open Go.RowKit
set_option linter.unusedVariables false
set_option linter.unusedSimpArgs false

theorem pend_take {rd : Int} {l : List Qc} (j : Nat) (h : pok rd l) : pend rd (l.take j) ≤ pend rd l := by
  have e := List.take_append_drop j l
  have k := h
  rw [← e] at k
  obtain ⟨k1, k2⟩ := pok_app.1 k
  by_cases hd : l.drop j = []
  · rw [hd, List.append_nil] at e
    rw [e]
    exact Int.le_refl _
  · have e2 := pend_app rd (l.take j) (l.drop j) hd (pend rd (l.take j))
    rw [e] at e2
    rw [e2]
    refine pend_ge k2 ?_
    split
    · rename_i h0
      rw [h0]
      exact Int.le_refl _
    · omega
/-- The first j pieces are in order within the limit; the last one ends at x, the next may start at y. -/
structure SeenR (rd li : Int) (l : List Qc) (j : Nat) (x y : Int) : Prop where
  ok : pok rd (l.take j)
  hx : x = pend rd (l.take j)
  hy : y = if l.take j = [] then rd else pend rd (l.take j) + 1
  le : x ≤ li
  lo : 0 ≤ x ∧ 0 ≤ y
theorem SeenR.zero {rd li : Int} {l : List Qc} (h : 0 ≤ rd ∧ rd ≤ li) : SeenR rd li l 0 rd rd := ⟨trivial, by simp [pend], by simp, h.2, h.1, h.1⟩
theorem SeenR.succ {rd li x y : Int} {l : List Qc} {j : Nat} {p : Qc} (h : SeenR rd li l j x y) (hj : l.take (j + 1) = l.take j ++ [p]) (h1 : 0 < p.2.size) (h2 : y ≤ p.1) (h3 : p.1 + (p.2.size : Int) ≤ li) : SeenR rd li l (j + 1) (p.1 + (p.2.size : Int)) (p.1 + (p.2.size : Int) + 1) := by
  have hy := h.hy
  have := h.lo
  refine ⟨?_, by rw [hj, pend_snoc], by rw [hj, if_neg (by simp), pend_snoc], h3, by omega, by omega⟩
  rw [hj]
  exact pok_snoc.2 ⟨h.ok, by rw [← hy]; exact h2, h1⟩
theorem SeenR.bad {rd li x y fi : Int} {l : List Qc} {j : Nat} {p : Qc} (h : SeenR rd li l j x y) (hj : l.take (j + 1) = l.take j ++ [p]) (hb : p.2.size = 0 ∨ p.1 < y ∨ li < p.1 + (p.2.size : Int)) : ¬ rvok rd l fi li := by
  rintro ⟨_, _, h3, h4, _⟩
  have k := pok_take (j + 1) h3
  have k2 := pend_take (j + 1) h3
  rw [hj] at k k2
  rw [pend_snoc] at k2
  obtain ⟨_, k4, k5⟩ := pok_snoc.1 k
  rw [← h.hy] at k4
  omega
theorem SeenR.all {rd li x y fi : Int} {l : List Qc} (h : SeenR rd li l l.length x y) (h1 : 0 ≤ li ∧ li ≤ 30) (h2 : 0 ≤ rd ∧ rd ≤ li) : rvok rd l fi li ↔ (fi = -1 ∨ (x ≤ fi ∧ fi ≤ li)) := by
  obtain ⟨k1, k2, _, k4, _⟩ := h
  rw [List.take_length] at k1 k2
  subst k2
  exact ⟨fun ⟨_, _, _, _, k⟩ => k, fun k => ⟨h1, h2, k1, k4, k⟩⟩

set_option maxRecDepth 100000 in
set_option maxHeartbeats 8000000 in
theorem irvval_any (v : Value) (l : List Pc) (rd fi li : Int) (w : World) (h : Pcn w v l) (hl : l.length ≤ 2000000) (hsz : ∀ p ∈ l, p.1 ≤ 9223372036854775807 ∧ p.2.size ≤ 2000000) :
    Calls Try.prog 18 #[.agg #[.int .i64 rd, v, .int .i64 fi, .int .i64 li]] w fun e w' => e = .returned (.bool (decide (rvok rd l fi li))) ∧ Below w.heap.size w w' := by
  have H := Lib.hid h
  have HZ : Hid (∀ j (hj : j < l.length), l[j].1 ≤ 9223372036854775807 ∧ l[j].2.size ≤ 2000000) := Lib.hid fun j hj => hsz _ (List.getElem_mem hj)
  obtain ⟨a, c, rfl, _⟩ := h
  have R0 := Lib.hid (Frm.new w 24 [.int .i64 rd, .slice a l.length c, .int .i64 fi, .int .i64 li])
  have BB : Hid (Below w.heap.size w (w.alloc (.cells #[.int .i64 rd, .slice a l.length c, .int .i64 fi, .int .i64 li] 24))) := Lib.hid ((Below.refl _ _).alloc (Nat.le_refl _) _)
  have hs0 : w.heap.size < (w.alloc (.cells #[.int .i64 rd, .slice a l.length c, .int .i64 fi, .int .i64 li] 24)).heap.size := by simp
  clear hsz
  have K1 : ∀ b : Bool, decide (0 ≤ li ∧ li ≤ 30) = b → Hid (∀ W, Calls Try.prog 30 #[.int .i64 li, .int .i64 30] W fun e w' => e = .returned (.bool b) ∧ W = w') := fun b hb => Lib.hid fun W => by rw [← hb]; exact upTo_any li 30 W
  have K2 : ∀ b : Bool, decide (0 ≤ rd ∧ rd ≤ li) = b → Hid (∀ W, Calls Try.prog 30 #[.int .i64 rd, .int .i64 li] W fun e w' => e = .returned (.bool b) ∧ W = w') := fun b hb => Lib.hid fun W => by rw [← hb]; exact upTo_any rd li W
  have K1' := Lib.hid K1
  have K2' := Lib.hid K2
  clear K1 K2
  by_cases k1 : 0 ≤ li ∧ li ≤ 30
  case neg =>
    have C1 := K1'.out false (decide_eq_false k1)
    have HF : Hid (decide (rvok rd l fi li) = false) := Lib.hid (decide_eq_false fun h => k1 h.1)
    go_enter Try.func18, Try.ntmps18
    go_wp2_with fail
    refine (C1.out _).mono ?_
    rintro e w1 ⟨rfl, rfl⟩
    go_wp2_with fail
    go_ret
    exact ⟨ret_bool HF.out.symm, BB.out⟩
  have C1 := K1'.out true (decide_eq_true k1)
  by_cases k2 : 0 ≤ rd ∧ rd ≤ li
  case neg =>
    have C2 := K2'.out false (decide_eq_false k2)
    have HF : Hid (decide (rvok rd l fi li) = false) := Lib.hid (decide_eq_false fun h => k2 h.2.1)
    go_enter Try.func18, Try.ntmps18
    go_wp2_with fail
    refine (C1.out _).mono ?_
    rintro e w1 ⟨rfl, rfl⟩
    go_wp2_with fail
    refine (C2.out _).mono ?_
    rintro e w1 ⟨rfl, rfl⟩
    go_wp2_with fail
    go_ret
    exact ⟨ret_bool HF.out.symm, BB.out⟩
  have C2 := K2'.out true (decide_eq_true k2)
  have HALL : Hid (∀ x y, SeenR rd li l l.length x y → (rvok rd l fi li ↔ (fi = -1 ∨ (x ≤ fi ∧ fi ≤ li)))) := Lib.hid fun x y h => h.all k1 k2
  have HS0 := Lib.hid (SeenR.zero (l := l) k2)
  go_enter Try.func18, Try.ntmps18
  go_wp2_with fail
  refine (C1.out _).mono ?_
  rintro e w1 ⟨rfl, rfl⟩
  go_wp2_with fail
  refine (C2.out _).mono ?_
  rintro e w1 ⟨rfl, rfl⟩
  go_wp2_with fail
  go_quiet (fail)
  have R1 := Lib.hid (R0.out.below (below_drewN' (Below.refl _ _) nq) hs0)
  have B1 := Lib.hid (below_drewN' BB.out nq)
  have q0 := R1.out 0
  have q1 := R1.out 1
  generalize (w.alloc (.cells #[.int .i64 rd, .slice a l.length c, .int .i64 fi, .int .i64 li] 24)).drewN nq = W0 at *
  clear R0 BB hs0
  go_wp2_with fail
  go_loopw [3, 4, 26] (fun xv yv iv wr => ∃ (j : Nat) (x y : Int), j ≤ l.length ∧ iv = .int .i64 (j : Int) ∧ xv = .int .i64 x ∧ yv = .int .i64 y ∧ Hid (SeenR rd li l j x y) ∧ Hid (Below w.heap.size w wr) ∧ Hid (Frm wr w.heap.size [.int .i64 rd, .slice a l.length c, .int .i64 fi, .int .i64 li])) (fun _ _ iv _ => l.length - (intOf iv).toNat)
  case atStart => exact ⟨0, rd, rd, Nat.zero_le _, rfl, rfl, rfl, HS0, B1, R1⟩
  case round =>
    clear B1 R1 q0 q1
    obtain ⟨j, x, y, hj, rfl, rfl, rfl, HS, HB, HR⟩ := hrel
    have r2 := HR.out 2
    have r3 := HR.out 3
    by_cases hlt : j < l.length
    · have hlt' : (j : Int) < (l.length : Int) := by omega
      obtain ⟨_, _, e0, hc0⟩ := H.out
      injection e0 with e1 e2 e3
      obtain ⟨g, o, e4, hc⟩ := hc0 (by rintro rfl; simp at hlt)
      clear hc0
      subst e1 e3 e4
      have c0 := (HB.out.cell (World.block_lt_of_cell? w _ (hc j hlt).1)).trans (hc j hlt).1
      have c1 := (HB.out.cell (World.block_lt_of_cell? w _ (hc j hlt).2)).trans (hc j hlt).2
      have hz := HZ.out j hlt
      have HT := Lib.hid (take_snoc' l j hlt)
      rw [show l.getD j pc0 = l[j] by rw [List.getD_eq_getElem?_getD, List.getElem?_eq_getElem hlt]; rfl] at c0 c1
      generalize l[j] = p at *
      obtain ⟨px, d⟩ := p
      simp only at c0 c1 hz
      have hxy := HS.out.lo
      have hxl := HS.out.le
      have B2 := Lib.hid (HB.out.alloc HB.out.size (.cells #[.int .i64 px, .string d] 51))
      have R2 := Lib.hid (HR.out.below ((Below.refl wr.heap.size wr).alloc (Nat.le_refl _) (.cells #[.int .i64 px, .string d] 51)) (World.block_lt_of_cell? wr _ r3))
      clear hc e2
      by_cases b1 : d.size = 0
      · have hd := toList_nil b1
        have HF : Hid (decide (rvok rd l fi li) = false) := Lib.hid (decide_eq_false (HS.out.bad HT.out (.inl b1)))
        clear b1
        go_wp2_with fail
        go_ret
        exact ⟨ret_bool HF.out.symm, B2.out⟩
      have hd : ¬ d.toList = [] := fun e => b1 (size_nil e)
      have hde : d.toList.isEmpty = false := by rw [Bool.eq_false_iff]; intro e; exact hd (List.isEmpty_iff.1 e)
      have r3' := R2.out 3
      by_cases b2 : px < y
      · have d2 : decide (px < y) = true := decide_eq_true b2
        have HF : Hid (decide (rvok rd l fi li) = false) := Lib.hid (decide_eq_false (HS.out.bad HT.out (.inr (.inl b2))))
        go_wp2_with fail
        go_ret
        exact ⟨ret_bool HF.out.symm, B2.out⟩
      have d2 : decide (px < y) = false := decide_eq_false b2
      have hw1 : IntKind.i64.wrap (li - px) = li - px := IntWalk.i64_in _ (by omega)
      by_cases b3 : li - px < (d.size : Int)
      · have d3 : decide (li - px < (d.size : Int)) = true := decide_eq_true b3
        have HF : Hid (decide (rvok rd l fi li) = false) := Lib.hid (decide_eq_false (HS.out.bad HT.out (.inr (.inr (by simp only; omega)))))
        go_wp2_with fail
        go_ret
        exact ⟨ret_bool HF.out.symm, B2.out⟩
      · have d3 : decide (li - px < (d.size : Int)) = false := decide_eq_false b3
        have HS2 := Lib.hid (HS.out.succ (p := (px, d)) HT.out (by simp only; omega) (by simp only; omega) (by simp only; omega))
        simp only at HS2
        have hw2 : IntKind.i64.wrap (px + (d.size : Int)) = px + (d.size : Int) := IntWalk.i64_in _ (by omega)
        have hw3 : IntKind.i64.wrap (px + (d.size : Int) + 1) = px + (d.size : Int) + 1 := IntWalk.i64_in _ (by omega)
        go_wp2_with fail
        go_roundw
        case rel => exact ⟨j + 1, _, _, by omega, by go_num, rfl, rfl, HS2, B2, R2⟩
        case measure => simp [intOf]; omega
    · have hlt' : ¬ (j : Int) < (l.length : Int) := by omega
      have hjl : j = l.length := by omega
      rw [hjl] at HS
      have HA := Lib.hid (HALL.out x y HS.out)
      clear hjl HALL
      by_cases f1 : fi = -1
      · have f1' : (fi == -1) = true := by rw [beq_iff_eq]; exact f1
        have HF : Hid (decide (rvok rd l fi li) = true) := Lib.hid (decide_eq_true (HA.out.2 (.inl f1)))
        clear f1
        go_wp2_with fail
        go_ret
        exact ⟨ret_bool HF.out.symm, HB.out⟩
      have f1' : (fi == -1) = false := by rw [beq_eq_false_iff_ne]; exact f1
      by_cases f2 : x ≤ fi
      · by_cases f3 : fi ≤ li
        · have HF : Hid (decide (rvok rd l fi li) = true) := Lib.hid (decide_eq_true (HA.out.2 (.inr ⟨f2, f3⟩)))
          have d2 := decide_eq_true f2
          have d3 := decide_eq_true f3
          clear f1
          go_wp2_with fail
          go_ret
          exact ⟨ret_bool HF.out.symm, HB.out⟩
        · have HF : Hid (decide (rvok rd l fi li) = false) := Lib.hid (decide_eq_false fun h => (HA.out.1 h).elim f1 fun k => f3 k.2)
          have d2 := decide_eq_true f2
          have d3 := decide_eq_false f3
          clear f1
          go_wp2_with fail
          go_ret
          exact ⟨ret_bool HF.out.symm, HB.out⟩
      · have HF : Hid (decide (rvok rd l fi li) = false) := Lib.hid (decide_eq_false fun h => (HA.out.1 h).elim f1 fun k => f2 k.1)
        have d2 := decide_eq_false f2
        clear f1
        go_wp2_with fail
        go_ret
        exact ⟨ret_bool HF.out.symm, HB.out⟩
end Go.Proofs.Ythdhjjbgegcncaa
