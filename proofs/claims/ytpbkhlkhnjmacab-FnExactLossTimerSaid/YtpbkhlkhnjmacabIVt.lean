/- The program's LossTimer. -/
import Derived.Test.YtpbkhlkhnjmacabIVm
import Derived.Test.YtpbkhlkhnjmacabIVk
import Derived.Test.YtpbkhlkhnjmacabIFo
import Derived.BigQuiet
import Derived.Deep.QuietTactic
import Derived.Deep.Draws
namespace Go.Proofs.Ytpbkhlkhnjmacab
open Go.RowKit
set_option linter.unusedVariables false
set_option linter.unusedSimpArgs false

set_option maxRecDepth 100000 in
set_option maxHeartbeats 4000000 in
theorem iltimer_any (n g d : Int) (v : Value) (l : List Pk) (w : World) (hs : Pks w v l) (hl : l.length ≤ 1048576) : Calls Try.prog 30 #[.agg #[.int .i64 n, v, .int .i64 g], .int .i64 d] w fun e w' => e = .returned (.int .i64 (ltimer (n, l, g) d)) ∧ Below w.heap.size w w' := by
  have HS := Lib.hid hs
  obtain ⟨a, c, rfl, hcc, hs⟩ := hs
  clear hs hcc
  have X := Lib.hid (C3.new w (.int .i64 n) (.slice a l.length c) (.int .i64 g) 24)
  have B := Lib.hid ((Below.refl w.heap.size w).alloc (Nat.le_refl _) (.cells #[.int .i64 n, .slice a l.length c, .int .i64 g] 24))
  have HV := Lib.hid (ilval_any n g _ l _ (HS.out.below B.out) hl)
  have HD0 := Lib.hid (isDelay_any d)
  obtain ⟨x0, x1, x2⟩ := X.out
  have HNO : Hid (¬ (lok (n, l, g) ∧ (1 ≤ d ∧ d ≤ 1998) ∧ 0 < l.length ∧ (l.getD 0 pkD).1 < g) → ltimer (n, l, g) d = -1) := Lib.hid fun h => by unfold ltimer; exact if_neg h
  have HYES : Hid ((lok (n, l, g) ∧ (1 ≤ d ∧ d ≤ 1998) ∧ 0 < l.length ∧ (l.getD 0 pkD).1 < g) → ltimer (n, l, g) d = (l.getD 0 pkD).2.1 + d) := Lib.hid fun h => by unfold ltimer; exact if_pos h
  by_cases hv : lok (n, l, g)
  case neg =>
    have HD := Lib.hid (decide_eq_false hv)
    have HF := Lib.hid (HNO.out fun h => hv h.1)
    clear hv
    go_enter Try.func30, Try.ntmps30
    go_wp2_with fail
    refine HV.out.mono ?_
    rw [HD.out]
    rintro e w1 ⟨rfl, hb1⟩
    have B1 := Lib.hid (B.out.trans (hb1.mono B.out.size))
    clear hb1
    go_wp2_with fail
    go_ret
    exact ⟨ret_int HF.out.symm, B1.out⟩
  have HD := Lib.hid (decide_eq_true hv)
  have HVV := Lib.hid hv
  by_cases hd : 1 ≤ d ∧ d ≤ 1998
  case neg =>
    have HDD := Lib.hid (decide_eq_false hd)
    have HF := Lib.hid (HNO.out fun h => hd h.2.1)
    clear hv hd
    go_enter Try.func30, Try.ntmps30
    go_wp2_with fail
    refine HV.out.mono ?_
    rw [HD.out]
    rintro e w1 ⟨rfl, hb1⟩
    have B1 := Lib.hid (B.out.trans (hb1.mono B.out.size))
    clear hb1
    go_wp2_with fail
    refine (HD0.out _).mono ?_
    rw [HDD.out]
    rintro e w2 ⟨rfl, hw⟩
    rw [← hw]
    clear hw
    go_wp2_with fail
    go_ret
    exact ⟨ret_int HF.out.symm, B1.out⟩
  have HDD := Lib.hid (decide_eq_true hd)
  have HDV := Lib.hid hd
  obtain ⟨hd1, hd2⟩ := hd
  clear hv
  go_enter Try.func30, Try.ntmps30
  go_wp2_with fail
  refine HV.out.mono ?_
  rw [HD.out]
  rintro e w1 ⟨rfl, hb1⟩
  have X1 := Lib.hid (X.out.below hb1)
  have B1 := Lib.hid (B.out.trans (hb1.mono B.out.size))
  clear hb1 x0 x1 x2
  obtain ⟨x0, x1, x2⟩ := X1.out
  go_wp2_with fail
  refine (HD0.out _).mono ?_
  rw [HDD.out]
  rintro e w2 ⟨rfl, hw⟩
  rw [← hw]
  clear hw
  have CF := Lib.hid (flightOf_any _ l w1 (HS.out.below B1.out) hl)
  go_wp2_with fail
  refine CF.out.mono ?_
  rintro e w3 ⟨f, cs, rfl, hf3, hb3⟩
  have X3 := Lib.hid (X1.out.below hb3)
  have B3 := Lib.hid (B1.out.trans (hb3.mono B1.out.size))
  obtain ⟨s, t, hcs, hl2⟩ := hf3.head
  have c0 := hf3.c0
  rw [hcs, hdB_cons, pv_some] at c0
  have hch := hf3.ch
  rw [hcs] at hch
  obtain ⟨hn, hch⟩ := hch
  have n3 := hn.c3
  simp only at n3
  clear x0 x1 x2 hf3 hb3 hcs hn
  cases t with
  | nil =>
    rw [hdB_nil, pv_none] at n3
    have HF := Lib.hid (HNO.out fun h => by rw [← hl2] at h; simp at h)
    clear hl2 hch
    go_wp2_with fail
    go_quiet (fail)
    go_wp2_with fail
    go_ret
    exact ⟨ret_int HF.out.symm, below_drewN' B3.out _⟩
  | cons y t =>
    obtain ⟨b, p1, p2, p3⟩ := y
    rw [hdB_cons, pv_some] at n3
    obtain ⟨⟨m0, m1, m2, m3, mf⟩, _⟩ := hch
    simp only at m0 m1 m2 m3 n3
    have hg0 : l.getD 0 pkD = (p1, p2, p3) := by rw [← hl2]; rfl
    have hlen : 0 < l.length := by rw [← hl2]; simp
    obtain ⟨z0, z1, z2⟩ := X3.out
    by_cases hlt : g ≤ p1
    · have hdd := decide_eq_true hlt
      have HF := Lib.hid (HNO.out fun h => by have := h.2.2.2; rw [hg0] at this; simp only at this; omega)
      clear hl2 hg0 m3 mf
      go_wp2_with fail
      go_quiet (fail)
      go_wp2_with fail
      go_ret
      exact ⟨ret_int HF.out.symm, below_drewN' B3.out _⟩
    · have hdd := decide_eq_false hlt
      have HF := Lib.hid (HYES.out ⟨HVV.out, HDV.out, hlen, by rw [hg0]; show p1 < g; omega⟩)
      rw [hg0] at HF
      have hp2 : 0 ≤ p2 ∧ p2 ≤ 999 := by
        have := HVV.out.2.2.2.1 (p1, p2, p3) (by show (p1, p2, p3) ∈ l; rw [← hl2]; simp)
        exact this.2.1
      have hw : IntKind.i64.wrap (p2 + d) = p2 + d := IntWalk.i64_in _ (by omega)
      clear hl2 hg0 m3 mf
      go_wp2_with fail
      go_quiet (fail)
      go_wp2_with fail
      go_ret
      exact ⟨ret_int HF.out.symm, below_drewN' B3.out _⟩

end Go.Proofs.Ytpbkhlkhnjmacab
