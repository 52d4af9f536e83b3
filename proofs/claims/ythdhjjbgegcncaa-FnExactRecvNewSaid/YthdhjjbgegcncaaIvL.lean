/- Chapter 31, the program: RecvNew, RecvReady, RecvEnded, RecvGrant. -/
import Derived.Test.YthdhjjbgegcncaaIvK
import Derived.Test.YthdhjjbgegcncaaQvX
import Derived.Laws.ResultCell
namespace Go.Proofs.Ythdhjjbgegcncaa
open Go.RowKit
set_option linter.unusedVariables false
set_option linter.unusedSimpArgs false

set_option maxRecDepth 100000 in
set_option maxHeartbeats 2000000 in
theorem irecvnew_any (n : Int) (w : World) :
    Calls Try.prog 11 #[.int .i64 n] w fun e w' => e = .returned (.tuple #[.agg #[.int .i64 0, .slice none 0 0, .int .i64 (if 0 ≤ n ∧ n ≤ 30 then -1 else 0), .int .i64 (if 0 ≤ n ∧ n ≤ 30 then n else 0)], .bool (decide (0 ≤ n ∧ n ≤ 30))]) ∧ Below w.heap.size w w' := by
  have C1 := Lib.hid (fun W => upTo_any n 30 W)
  by_cases h : 0 ≤ n ∧ n ≤ 30
  · rw [if_pos h, if_pos h]
    rw [decide_eq_true h] at C1 ⊢
    go_enter Try.func11, Try.ntmps11
    go_wp2_with fail
    refine (C1.out _).mono ?_
    rintro e w1 ⟨rfl, rfl⟩
    go_wp2_with fail
    refine bodyPost_ret (v := .tuple #[.agg #[.int .i64 0, .slice none 0 0, .int .i64 (-1), .int .i64 n], .bool true]) ?hr rfl ?_
    case hr => rw [results_cell_tmp rfl]; go_simp
    exact ⟨rfl, (Below.refl _ _).alloc (Nat.le_refl _) _⟩
  · rw [if_neg h, if_neg h]
    rw [decide_eq_false h] at C1 ⊢
    go_enter Try.func11, Try.ntmps11
    go_wp2_with fail
    refine (C1.out _).mono ?_
    rintro e w1 ⟨rfl, rfl⟩
    go_wp2_with fail
    refine bodyPost_ret (v := .tuple #[.agg #[.int .i64 0, .slice none 0 0, .int .i64 0, .int .i64 0], .bool false]) ?hr rfl ?_
    case hr => rw [results_cell_tmp rfl]; go_simp
    exact ⟨rfl, (Below.refl _ _).alloc (Nat.le_refl _) _⟩

/-- The bytes that are ready; -1 if the stream is invalid. -/
def rdyv (rd : Int) (l : List Qc) (fi li : Int) : Int := if rvok rd l fi li then (rdy rd l : Int) else -1
set_option maxRecDepth 100000 in
set_option maxHeartbeats 4000000 in
theorem irecvready_any (v : Value) (l : List Pc) (rd fi li : Int) (w : World) (h : Pcn w v l) (hl : l.length ≤ 2000000) (hsz : ∀ p ∈ l, p.1 ≤ 9223372036854775807 ∧ p.2.size ≤ 2000000) :
    Calls Try.prog 22 #[.agg #[.int .i64 rd, v, .int .i64 fi, .int .i64 li]] w fun e w' => e = .returned (.int .i64 (rdyv rd l fi li)) ∧ Below w.heap.size w w' := by
  have BB : Hid (Below w.heap.size w (w.alloc (.cells #[.int .i64 rd, v, .int .i64 fi, .int .i64 li] 24))) := Lib.hid ((Below.refl _ _).alloc (Nat.le_refl _) _)
  have R0 := Lib.hid (Frm.new w 24 [.int .i64 rd, v, .int .i64 fi, .int .i64 li])
  have hs0 : w.heap.size < (w.alloc (.cells #[.int .i64 rd, v, .int .i64 fi, .int .i64 li] 24)).heap.size := by simp
  have CV := Lib.hid (irvval_any v l rd fi li _ (h.below BB.out) hl hsz)
  have H := Lib.hid h
  obtain ⟨a, c, rfl, _⟩ := h
  clear hsz
  by_cases hv : rvok rd l fi li
  · rw [decide_eq_true hv] at CV
    have HR : Hid (rdyv rd l fi li = (rdy rd l : Int)) := Lib.hid (if_pos hv)
    obtain ⟨hib, hl30⟩ := rvok_sz hv
    have HIB := Lib.hid hib
    clear hv hib
    cases l with
    | nil =>
      have HR2 : Hid (rdyv rd [] fi li = 0) := Lib.hid (by rw [HR.out]; rfl)
      go_enter Try.func22, Try.ntmps22
      go_wp2_with fail
      refine CV.out.mono ?_
      rintro e w1 ⟨rfl, hb1⟩
      have B1 := Lib.hid (BB.out.trans (hb1.mono BB.out.size))
      have R1 := Lib.hid (R0.out.below hb1 hs0)
      have q0 := R1.out 0
      have q1 := R1.out 1
      clear hb1 hs0
      go_wp2_with fail
      go_quiet (fail)
      have B2 := Lib.hid (below_drewN' B1.out nq)
      go_wp2_with fail
      go_ret
      exact ⟨ret_int HR2.out.symm, B2.out⟩
    | cons p t =>
      obtain ⟨x, d⟩ := p
      obtain ⟨_, _, e0, hc0⟩ := H.out
      injection e0 with e1 e2 e3
      obtain ⟨g, o, e4, hc⟩ := hc0 (by simp)
      clear hc0
      subst e1 e3 e4
      obtain ⟨c0, c1⟩ := hc 0 (by simp)
      have hib := HIB.out (x, d) (by simp)
      unfold IB' at hib
      simp only [Nat.zero_mul, Nat.add_zero, List.getD_cons_zero] at c0 c1 hib
      have hn0 : (((((x, d) :: t : List Pc).length : Nat) : Int) == 0) = false := by first | (simp; done) | (simp; omega)
      have hlen : (0 : Int) < (((x, d) :: t : List Pc).length : Int) := by first | (simp; done) | (simp; omega)
      have HRD : Hid ((rdy rd ((x, d) :: t) : Int) = if rd < x then 0 else (d.size : Int)) := Lib.hid (by
        show ((if rd < x then 0 else d.size : Nat) : Int) = _
        split <;> rfl)
      rw [HRD.out] at HR
      have hgw := World.block_lt_of_cell? w _ c0
      generalize hL : ((x, d) :: t : List Pc).length = L at *
      generalize hRV : rdyv rd ((x, d) :: t) fi li = RV at *
      clear HRD hc e2 hL hRV HIB H
      by_cases hx : rd < x
      · have hx' : decide (rd < x) = true := decide_eq_true hx
        have HR2 : Hid (RV = 0) := Lib.hid (HR.out.trans (if_pos hx))
        go_enter Try.func22, Try.ntmps22
        go_wp2_with fail
        refine CV.out.mono ?_
        rintro e w1 ⟨rfl, hb1⟩
        have B1 := Lib.hid (BB.out.trans (hb1.mono BB.out.size))
        have R1 := Lib.hid (R0.out.below hb1 hs0)
        have q0 := R1.out 0
        have q1 := R1.out 1
        have p0 := (B1.out.cell (p := ⟨g, o, none⟩) hgw).trans c0
        have p1 := (B1.out.cell (p := ⟨g, o + 1, none⟩) hgw).trans c1
        clear hb1 hs0
        go_wp2_with fail
        go_quiet (fail)
        have B2 := Lib.hid (below_drewN' B1.out nq)
        go_wp2_with fail
        go_ret
        exact ⟨ret_int HR2.out.symm, B2.out⟩
      · have hx' : decide (rd < x) = false := decide_eq_false hx
        have HR2 : Hid (RV = (d.size : Int)) := Lib.hid (HR.out.trans (if_neg hx))
        go_enter Try.func22, Try.ntmps22
        go_wp2_with fail
        refine CV.out.mono ?_
        rintro e w1 ⟨rfl, hb1⟩
        have B1 := Lib.hid (BB.out.trans (hb1.mono BB.out.size))
        have R1 := Lib.hid (R0.out.below hb1 hs0)
        have q0 := R1.out 0
        have q1 := R1.out 1
        have p0 := (B1.out.cell (p := ⟨g, o, none⟩) hgw).trans c0
        have p1 := (B1.out.cell (p := ⟨g, o + 1, none⟩) hgw).trans c1
        clear hb1 hs0
        go_wp2_with fail
        go_quiet (fail)
        have B2 := Lib.hid (below_drewN' B1.out nq)
        go_wp2_with fail
        go_ret
        exact ⟨ret_int HR2.out.symm, B2.out⟩
  · rw [decide_eq_false hv] at CV
    have HR : Hid (rdyv rd l fi li = -1) := Lib.hid (if_neg hv)
    clear hv
    go_enter Try.func22, Try.ntmps22
    go_wp2_with fail
    refine CV.out.mono ?_
    rintro e w1 ⟨rfl, hb1⟩
    have B1 := Lib.hid (BB.out.trans (hb1.mono BB.out.size))
    clear hb1 hs0
    go_wp2_with fail
    go_ret
    exact ⟨ret_int HR.out.symm, B1.out⟩

set_option maxRecDepth 100000 in
set_option maxHeartbeats 2000000 in
theorem irecvended_any (v : Value) (l : List Pc) (rd fi li : Int) (w : World) (h : Pcn w v l) (hl : l.length ≤ 2000000) (hsz : ∀ p ∈ l, p.1 ≤ 9223372036854775807 ∧ p.2.size ≤ 2000000) :
    Calls Try.prog 26 #[.agg #[.int .i64 rd, v, .int .i64 fi, .int .i64 li]] w fun e w' => e = .returned (.bool (decide (rvok rd l fi li ∧ rd = fi))) ∧ Below w.heap.size w w' := by
  have BB : Hid (Below w.heap.size w (w.alloc (.cells #[.int .i64 rd, v, .int .i64 fi, .int .i64 li] 24))) := Lib.hid ((Below.refl _ _).alloc (Nat.le_refl _) _)
  have R0 := Lib.hid (Frm.new w 24 [.int .i64 rd, v, .int .i64 fi, .int .i64 li])
  have hs0 : w.heap.size < (w.alloc (.cells #[.int .i64 rd, v, .int .i64 fi, .int .i64 li] 24)).heap.size := by simp
  have CV := Lib.hid (irvval_any v l rd fi li _ (h.below BB.out) hl hsz)
  obtain ⟨a, c, rfl, _⟩ := h
  clear hsz
  by_cases hv : rvok rd l fi li
  · rw [decide_eq_true hv] at CV
    have HQ : Hid ((rd == fi) = decide (rvok rd l fi li ∧ rd = fi)) := Lib.hid (by rw [Bool.eq_iff_iff, beq_iff_eq, decide_eq_true_eq]; exact ⟨fun e => ⟨hv, e⟩, fun e => e.2⟩)
    clear hv
    go_enter Try.func26, Try.ntmps26
    go_wp2_with fail
    refine CV.out.mono ?_
    rintro e w1 ⟨rfl, hb1⟩
    have B1 := Lib.hid (BB.out.trans (hb1.mono BB.out.size))
    have R1 := Lib.hid (R0.out.below hb1 hs0)
    have q0 := R1.out 0
    have q2 := R1.out 2
    clear hb1 hs0
    go_wp2_with fail
    go_ret
    exact ⟨ret_bool HQ.out, B1.out⟩
  · rw [decide_eq_false hv] at CV
    have HQ : Hid (decide (rvok rd l fi li ∧ rd = fi) = false) := Lib.hid (decide_eq_false fun k => hv k.1)
    clear hv
    go_enter Try.func26, Try.ntmps26
    go_wp2_with fail
    refine CV.out.mono ?_
    rintro e w1 ⟨rfl, hb1⟩
    have B1 := Lib.hid (BB.out.trans (hb1.mono BB.out.size))
    clear hb1 hs0
    go_wp2_with fail
    go_ret
    exact ⟨ret_bool HQ.out.symm, B1.out⟩
end Go.Proofs.Ythdhjjbgegcncaa
