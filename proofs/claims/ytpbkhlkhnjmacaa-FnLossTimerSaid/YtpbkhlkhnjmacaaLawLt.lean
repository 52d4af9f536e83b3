/- The law FnLossTimer: the walk. -/
import Derived.Test.YtpbkhlkhnjmacaaLawLk
import Derived.Test.YtpbkhlkhnjmacaaDrLm
import Derived.Test.YtpbkhlkhnjmacaaIVt
import Derived.Test.YtpbkhlkhnjmacaaSLw
import Derived.Test.YtpbkhlkhnjmacaaIVm
import Derived.Deep.CutBlock
import Derived.BigQuiet
import Derived.Deep.QuietTactic
import Derived.Deep.Draws
namespace Go.Proofs.Ytpbkhlkhnjmacaa
open Go.RowKit
set_option linter.unusedVariables false
set_option linter.unusedSimpArgs false

set_option maxRecDepth 100000 in
set_option maxHeartbeats 8000000 in
theorem losstimer_walk (a : Option Addr) (len cap : Nat) (zs : List Int) (w : World) (h : IsRow .u8 w a len cap zs) :
    Calls Try.prog 14 #[.slice a len cap] w fun e w' => e = .returned (.bool true) ∧ Below w.heap.size w w' := by
  have H := Lib.hid h
  clear h
  by_cases hl : 1048576 < len
  · go_enter Try.func14, Try.ntmps14
    go_wp2
    go_ret
    exact ⟨rfl, Below.refl _ _⟩
  go_enter Try.func14, Try.ntmps14
  go_wp2_with fail
  refine (drtimer_any a len cap zs w H.out).mono ?_
  rintro e w1 ⟨n, g, d, v1, l, rfl, hl12, hO1, hn1, hb1⟩
  have V1 := Lib.hid (SV.own (n := n) (g := g) hO1 25)
  have B1 := Lib.hid (bup hb1 (below_al w1 (.cells #[.int .i64 n, v1, .int .i64 g] 25)))
  obtain ⟨a1, c1, rfl⟩ := OwnPk.shape hO1
  have HL := Lib.hid hl12
  clear hO1 hn1 hb1 hl12
  go_upto_region 4 with fail
  generalize w1.alloc (.cells #[.int .i64 n, .slice a1 l.length c1, .int .i64 g] 25) = W1 at V1 B1 ⊢
  generalize w1.heap.size = xb at V1 ⊢
  obtain ⟨q, hq⟩ : ∃ q, ltimer (n, l, g) d = q := ⟨_, rfl⟩
  have HQ := Lib.hid hq
  have CI := Lib.hid (iltimer_any n g d _ l W1 V1.out.k (by have := HL.out; omega))
  rw [hq] at CI
  obtain ⟨x0, x1, x2⟩ := V1.out.c
  go_wp2_with fail
  refine CI.out.mono ?_
  rintro e w2 ⟨rfl, hb2⟩
  have V2 := Lib.hid (V1.out.below hb2)
  have B2 := Lib.hid (bup B1.out hb2)
  have CS := Lib.hid (sltimer_any n g d _ l w2 V2.out.k (by have := HL.out; omega))
  rw [hq] at CS
  clear hb2 hq x0 x1 x2 V1 CI
  obtain ⟨x0, x1, x2⟩ := V2.out.c
  go_wp2_with fail
  refine CS.out.mono ?_
  rintro e w3 ⟨rfl, hb3⟩
  have V3 := Lib.hid (V2.out.below hb3)
  have B3 := Lib.hid (bup B2.out hb3)
  have CV := Lib.hid (slval_any n g _ l w3 V3.out.k (by have := HL.out; omega))
  clear hb3 x0 x1 x2 V2 CS
  obtain ⟨x0, x1, x2⟩ := V3.out.c
  by_cases hv : lok (n, l, g)
  case neg =>
    have HD := Lib.hid (decide_eq_false hv)
    clear hv
    go_wp2_with fail
    refine CV.out.mono ?_
    rw [HD.out]
    rintro e w4 ⟨rfl, hb4⟩
    have V4 := Lib.hid (V3.out.below hb4)
    have B4 := Lib.hid (bup B3.out hb4)
    clear hb4 x0 x1 x2
    obtain ⟨x0, x1, x2⟩ := V4.out.c
    go_wp2_with fail
    go_ret
    exact ⟨rfl, B4.out⟩
  have HD := Lib.hid (decide_eq_true hv)
  by_cases hd1 : d < 1
  case pos =>
    have hda := decide_eq_true hd1
    clear hv
    go_wp2_with fail
    refine CV.out.mono ?_
    rw [HD.out]
    rintro e w4 ⟨rfl, hb4⟩
    have V4 := Lib.hid (V3.out.below hb4)
    have B4 := Lib.hid (bup B3.out hb4)
    clear hb4 x0 x1 x2
    obtain ⟨x0, x1, x2⟩ := V4.out.c
    go_wp2_with fail
    go_ret
    exact ⟨rfl, B4.out⟩
  have hda := decide_eq_false hd1
  by_cases hd2 : 1998 < d
  case pos =>
    have hdb := decide_eq_true hd2
    clear hv
    go_wp2_with fail
    refine CV.out.mono ?_
    rw [HD.out]
    rintro e w4 ⟨rfl, hb4⟩
    have V4 := Lib.hid (V3.out.below hb4)
    have B4 := Lib.hid (bup B3.out hb4)
    clear hb4 x0 x1 x2
    obtain ⟨x0, x1, x2⟩ := V4.out.c
    go_wp2_with fail
    go_ret
    exact ⟨rfl, B4.out⟩
  have hdb := decide_eq_false hd2
  have HV := Lib.hid hv
  clear hv
  by_cases hl0 : l.length = 0
  case pos =>
    have hq1 : q = -1 := by rw [← HQ.out]; unfold ltimer; exact if_neg fun h => by have := h.2.2.1; simp only at this; omega
    subst hq1
    have h0 : ((l.length : Int) == 0) = true := by rw [hl0]; rfl
    have h0' : (l.length == 0) = true := by rw [hl0]; rfl
    clear hl0
    go_wp2_with fail
    refine CV.out.mono ?_
    rw [HD.out]
    rintro e w4 ⟨rfl, hb4⟩
    have V4 := Lib.hid (V3.out.below hb4)
    have B4 := Lib.hid (bup B3.out hb4)
    clear hb4 x0 x1 x2
    obtain ⟨x0, x1, x2⟩ := V4.out.c
    go_wp2_with fail
    go_quiet (fail)
    go_wp2_with fail
    go_ret
    exact ⟨rfl, below_drewN' B4.out _⟩
  have hlp : 0 < l.length := by omega
  have hlp' : (0 : Int) < (l.length : Int) := by omega
  have h0 : ((l.length : Int) == 0) = false := by rw [beq_eq_false_iff_ne]; omega
  have h0' : (l.length == 0) = false := by rw [beq_eq_false_iff_ne]; exact hl0
  clear hl0
  obtain ⟨⟨p1, p2, p3⟩, hp⟩ : ∃ p, l.getD 0 pkD = p := ⟨_, rfl⟩
  have HP := Lib.hid (fun (W : World) (h : Pks W (.slice a1 l.length c1) l) => row_first h hlp hp)
  by_cases hg : g ≤ p1
  case pos =>
    have hdg := decide_eq_true hg
    have hq1 : q = -1 := by rw [← HQ.out]; unfold ltimer; exact if_neg fun h => by have := h.2.2.2; simp only [hp] at this; omega
    subst hq1
    clear hp
    go_wp2_with fail
    refine CV.out.mono ?_
    rw [HD.out]
    rintro e w4 ⟨rfl, hb4⟩
    have V4 := Lib.hid (V3.out.below hb4)
    have B4 := Lib.hid (bup B3.out hb4)
    clear hb4 x0 x1 x2
    obtain ⟨x0, x1, x2⟩ := V4.out.c
    obtain ⟨gq, oq, ha, hce⟩ := HP.out w4 V4.out.k
    subst ha
    go_wp2_with fail
    go_quiet (fail)
    go_wp2_with fail
    go_ret
    exact ⟨rfl, below_drewN' B4.out _⟩
  have hdg := decide_eq_false hg
  have hp2 : 0 ≤ p2 := by
    have hm : (p1, p2, p3) ∈ l := by rw [← hp, List.getD_eq_getElem?_getD, List.getElem?_eq_getElem hlp]; exact List.getElem_mem hlp
    exact (HV.out.2.2.2.1 _ hm).2.1.1
  have hcond : lok (n, l, g) ∧ (1 ≤ d ∧ d ≤ 1998) ∧ 0 < l.length ∧ (l.getD 0 pkD).1 < g := ⟨HV.out, ⟨by omega, by omega⟩, hlp, by rw [hp]; show p1 < g; omega⟩
  have hq1 : p2 + d = q := by
    have e : ltimer (n, l, g) d = (l.getD 0 pkD).2.1 + d := by unfold ltimer; exact if_pos hcond
    rw [← HQ.out, e, hp]
  clear hcond
  have hq0 : ¬ q < 0 := by omega
  have hqd := decide_eq_false hq0
  obtain ⟨mq, hmq⟩ : ∃ mq, (if 999 < q then 999 else q) = mq := ⟨_, rfl⟩
  obtain ⟨kl, y, gs, ls, hag, hin, hls, hgs⟩ := timer_lost HV.out (show 1 ≤ d ∧ d ≤ 1998 from ⟨by omega, by omega⟩) hp hlp (show p1 < g by omega) mq (by rw [hq1, hmq])
  have HAG := Lib.hid hag
  have HIN := Lib.hid (show ¬ 999 < q → p1 ∈ ls by rw [← hq1]; exact hin)
  have HLS := Lib.hid hls
  clear hag hin hls hgs hp hq1 hp2
  go_wp2_with fail
  refine CV.out.mono ?_
  rw [HD.out]
  rintro e w4 ⟨rfl, hb4⟩
  have V4 := Lib.hid (V3.out.below hb4)
  have B4 := Lib.hid (bup B3.out hb4)
  clear hb4 x0 x1 x2
  obtain ⟨x0, x1, x2⟩ := V4.out.c
  obtain ⟨gq, oq, ha, hce⟩ := HP.out w4 V4.out.k
  subst ha
  have UC := Lib.hid (below_al w4 (.cells #[] 48))
  have CT := Lib.hid (ilack_any n g mq d _ _ l [] (w4.alloc (.cells #[] 48)) (V4.out.below UC.out).k (rng_nil _ w4.heap.size) (by have := HL.out; omega) (Nat.zero_le _))
  rw [HAG.out] at CT
  go_wp2_with fail
  refine CT.out.mono ?_
  rintro e w6 ⟨v6, gv6, lv6, rfl, hO6, hG6, hL6, hb6, _⟩
  dsimp only at hO6 hG6 hL6 ⊢
  obtain ⟨a6, c6, rfl⟩ := OwnPk.shape hO6
  obtain ⟨ga6, gc6, rfl⟩ := OwnI.shape hG6
  obtain ⟨la6, lc6, rfl⟩ := OwnI.shape hL6
  have U6 := Lib.hid (bup hb6 (below_al w6 (.cells #[.int .i64 n, .slice a6 kl.length c6, .int .i64 y] 25)))
  have L6 := Lib.hid (hL6.ints.below (below_al w6 (.cells #[.int .i64 n, .slice a6 kl.length c6, .int .i64 y] 25)))
  have B6 := Lib.hid (bup (bup B4.out UC.out) U6.out)
  have V6 := Lib.hid ((V4.out.below UC.out).below U6.out)
  have hce6 := ((bup UC.out U6.out).cell (World.block_lt_of_cell? w4 _ hce)).trans hce
  clear hO6 hG6 hL6 hb6 x0 x1 x2 hce
  go_upto_region 11 with fail
  generalize w6.alloc (.cells #[.int .i64 n, .slice a6 kl.length c6, .int .i64 y] 25) = W6 at U6 L6 B6 V6 hce6 ⊢
  obtain ⟨x0, x1, x2⟩ := V6.out.c
  by_cases h9 : 999 < q
  case pos =>
    have hd9 := decide_eq_true h9
    go_wp2_with fail
    go_ret
    exact ⟨rfl, B6.out⟩
  have hd9 := decide_eq_false h9
  have HI := Lib.hid (decide_eq_true (HIN.out (by omega)))
  have CH := Lib.hid (hasint_any _ ls p1 W6 L6.out (by have := HLS.out; have := HL.out; omega))
  rw [HI.out] at CH
  go_wp2_with fail
  refine CH.out.mono ?_
  rintro e w7 ⟨rfl, hb7⟩
  have B7 := Lib.hid (bup B6.out hb7)
  clear hb7
  go_wp2_with fail
  go_ret
  exact ⟨rfl, B7.out⟩

end Go.Proofs.Ytpbkhlkhnjmacaa
