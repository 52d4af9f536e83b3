/- The law FnRecvReadLen: the walk.  -/
import Derived.Test.YtdhdomnhgcejhaaLawRv
import Derived.Deep.CutBlock
import Derived.BigQuiet
import Derived.Deep.Quiet
import Derived.Deep.QuietTactic
import Derived.Deep.Draws
namespace Go.Proofs.Ytdhdomnhgcejhaa
open Go.RowKit
set_option linter.unusedVariables false
set_option linter.unusedSimpArgs false

set_option maxRecDepth 100000 in
set_option maxHeartbeats 8000000 in
theorem rrlen_walk (a : Option Addr) (len cap : Nat) (zs : List Int) (w : World) (h : IsRow .u8 w a len cap zs) :
    Calls Try.prog 12 #[.slice a len cap] w fun e w' => e = .returned (.bool true) ∧ Below w.heap.size w w' := by
  have H := Lib.hid h
  clear h
  by_cases hl : 1048576 < len
  · go_enter Try.func12, Try.ntmps12
    go_wp2
    go_ret
    exact ⟨rfl, Below.refl _ _⟩
  go_enter Try.func12, Try.ntmps12
  go_wp2_with fail
  refine (drawRr_any a len cap zs w H.out).mono ?_
  rintro e w1 ⟨rd, fi, li, v, l, n, rfl, hb1, ho1, hn1, hbd, hlb⟩
  have HV1 := Lib.hid ho1
  have HN1 := Lib.hid hn1
  have HS := Lib.hid hbd.szd
  obtain ⟨va, vc, rfl⟩ : ∃ a c, v = .slice a l.length c := by obtain ⟨g, c, e, _⟩ := ho1.sl hn1; exact ⟨_, c, e⟩
  obtain ⟨rd', l', fi', li', s, hpv⟩ := ReadV.ex rd l fi li n
  have HP := Lib.hid hpv
  have HS' := Lib.hid hpv.szd.1
  have hss := hpv.szd.2
  have hll : l.length ≤ 1000 ∧ l'.length ≤ 1000 := ⟨HS.out.1, HS'.out.1⟩
  have B := Lib.hid hb1
  have BX := Lib.hid (below_al w1 (.cells #[.int .i64 rd, .slice va l.length vc, .int .i64 fi, .int .i64 li] 30))
  have B := Lib.hid (bup B.out BX.out)
  have X := Lib.hid (Sv.new (rd := rd) (fi := fi) (li := li) ho1.n)
  have HV := Lib.hid (HV1.out.below BX.out)
  clear hb1 ho1 hn1 hbd hpv
  have xc0 := X.out.f 0
  have xc1 := X.out.f 1
  have xc2 := X.out.f 2
  have xc3 := X.out.f 3
  go_wp2_with fail
  generalize w1.alloc (.cells #[.int .i64 rd, .slice va l.length vc, .int .i64 fi, .int .i64 li] 30) = WX at *
  generalize w1.heap.size = bX at *
  refine (iread_got HP.out X.out.p HS.out).mono ?_
  rintro e w2 ⟨vo, rfl, hb2, ho2⟩
  have HV := Lib.hid (HV.out.below hb2)
  clear xc0 xc1 xc2 xc3
  obtain ⟨voa, voc, rfl⟩ : ∃ a c, vo = .slice a l'.length c := by obtain ⟨a, c, e, _⟩ := ho2.n; exact ⟨a, c, e⟩
  have BO := Lib.hid (bup hb2 (below_al w2 (.cells #[.int .i64 rd', .slice voa l'.length voc, .int .i64 fi', .int .i64 li'] 30)))
  have X := Lib.hid (X.out.below BO.out)
  have B := Lib.hid (bup B.out BO.out)
  have O := Lib.hid (Sv.new (rd := rd') (fi := fi') (li := li') ho2.n)
  have HV := Lib.hid (HV.out.below (below_al w2 (.cells #[.int .i64 rd', .slice voa l'.length voc, .int .i64 fi', .int .i64 li'] 30)))
  clear hb2 ho2
  have xc0 := X.out.f 0
  have xc1 := X.out.f 1
  have xc2 := X.out.f 2
  have xc3 := X.out.f 3
  go_wp2_with fail
  generalize w2.alloc (.cells #[.int .i64 rd', .slice voa l'.length voc, .int .i64 fi', .int .i64 li'] 30) = WO at *
  generalize w2.heap.size = bO at *
  refine (sread_got HP.out HV.out HN1.out HS.out).mono ?_
  rintro e w3 ⟨vn, rfl, hb3, ho3⟩
  have HV := Lib.hid (HV.out.below hb3)
  clear xc0 xc1 xc2 xc3
  obtain ⟨vna, vnc, rfl⟩ : ∃ a c, vn = .slice a l'.length c := by obtain ⟨a, c, e, _⟩ := ho3.n; exact ⟨a, c, e⟩
  have BN := Lib.hid (bup hb3 (below_al w3 (.cells #[.int .i64 rd', .slice vna l'.length vnc, .int .i64 fi', .int .i64 li'] 30)))
  have X := Lib.hid (X.out.below BN.out)
  have O := Lib.hid (O.out.below BN.out)
  have B := Lib.hid (bup B.out BN.out)
  have N := Lib.hid (Sv.new (rd := rd') (fi := fi') (li := li') ho3.n)
  have HV := Lib.hid (HV.out.below (below_al w3 (.cells #[.int .i64 rd', .slice vna l'.length vnc, .int .i64 fi', .int .i64 li'] 30)))
  clear hb3 ho3 HV1
  have oc0 := O.out.f 0
  have oc1 := O.out.f 1
  have oc2 := O.out.f 2
  have oc3 := O.out.f 3
  have nc0 := N.out.f 0
  have nc1 := N.out.f 1
  have nc2 := N.out.f 2
  have nc3 := N.out.f 3
  have xc0 := X.out.f 0
  have xc1 := X.out.f 1
  have xc2 := X.out.f 2
  have xc3 := X.out.f 3
  go_wp2_with fail
  generalize w3.alloc (.cells #[.int .i64 rd', .slice vna l'.length vnc, .int .i64 fi', .int .i64 li'] 30) = WN at *
  generalize w3.heap.size = bN at *
  refine (samerv_any rd' fi' li' (.slice voa l'.length voc) (.slice vna l'.length vnc) l' _ O.out.p N.out.p (by omega)).mono ?_
  rintro e w4 ⟨rfl, hb⟩
  have Uw4 := Lib.hid hb
  clear hb
  have X := Lib.hid (X.out.below Uw4.out)
  have O := Lib.hid (O.out.below Uw4.out)
  have N := Lib.hid (N.out.below Uw4.out)
  have B := Lib.hid (bup B.out Uw4.out)
  have HV := Lib.hid (Pcs.of_own (HV.out.below Uw4.out) HN1.out)
  clear oc0 oc1 oc2 oc3
  clear nc0 nc1 nc2 nc3
  clear xc0 xc1 xc2 xc3
  have xc0 := X.out.f 0
  have xc1 := X.out.f 1
  have xc2 := X.out.f 2
  have xc3 := X.out.f 3
  have CV := Lib.hid (srvval_any _ l rd fi li w4 HV.out (by omega) (fun p hp => (HS.out.2 p hp).2))
  go_wp2_with fail
  refine CV.out.mono ?_
  rintro e w5 ⟨rfl, hb⟩
  have X := Lib.hid (X.out.below hb)
  have O := Lib.hid (O.out.below hb)
  have N := Lib.hid (N.out.below hb)
  have B := Lib.hid (bup B.out hb)
  clear hb CV HV HN1 Uw4
  clear xc0 xc1 xc2 xc3
  by_cases hv : rvok rd l fi li
  case neg =>
    rw [decide_eq_false hv]
    clear hv
    have oc0 := O.out.f 0
    have oc1 := O.out.f 1
    have oc2 := O.out.f 2
    have oc3 := O.out.f 3
    have nc0 := N.out.f 0
    have nc1 := N.out.f 1
    have nc2 := N.out.f 2
    have nc3 := N.out.f 3
    go_wp2_with fail
    refine (samerv_any rd' fi' li' (.slice voa l'.length voc) (.slice vna l'.length vnc) l' _ O.out.p N.out.p (by omega)).mono ?_
    rintro e w6 ⟨rfl, hb⟩
    have B := Lib.hid (bup B.out hb)
    clear hb
    go_wp2_with fail
    go_ret
    exact ⟨rfl, B.out⟩
  rw [decide_eq_true hv]
  by_cases h1 : n < 0
  case pos =>
    have dn : decide (n < 0) = true := decide_eq_true h1
    clear hv
    have oc0 := O.out.f 0
    have oc1 := O.out.f 1
    have oc2 := O.out.f 2
    have oc3 := O.out.f 3
    have nc0 := N.out.f 0
    have nc1 := N.out.f 1
    have nc2 := N.out.f 2
    have nc3 := N.out.f 3
    go_wp2_with fail
    refine (samerv_any rd' fi' li' (.slice voa l'.length voc) (.slice vna l'.length vnc) l' _ O.out.p N.out.p (by omega)).mono ?_
    rintro e w6 ⟨rfl, hb⟩
    have B := Lib.hid (bup B.out hb)
    clear hb
    go_wp2_with fail
    go_ret
    exact ⟨rfl, B.out⟩
  have dh1 : decide (n < 0) = false := decide_eq_false h1
  by_cases h2 : 30 < n
  case pos =>
    have dn : decide (30 < n) = true := decide_eq_true h2
    clear hv
    have oc0 := O.out.f 0
    have oc1 := O.out.f 1
    have oc2 := O.out.f 2
    have oc3 := O.out.f 3
    have nc0 := N.out.f 0
    have nc1 := N.out.f 1
    have nc2 := N.out.f 2
    have nc3 := N.out.f 3
    go_wp2_with fail
    refine (samerv_any rd' fi' li' (.slice voa l'.length voc) (.slice vna l'.length vnc) l' _ O.out.p N.out.p (by omega)).mono ?_
    rintro e w6 ⟨rfl, hb⟩
    have B := Lib.hid (bup B.out hb)
    clear hb
    go_wp2_with fail
    go_ret
    exact ⟨rfl, B.out⟩
  have dh2 : decide (30 < n) = false := decide_eq_false h2
  have hp2 := HP.out
  unfold ReadV at hp2
  rw [if_pos ⟨hv, by omega, by omega⟩] at hp2
  obtain ⟨hrd, hfi, hli, hred⟩ := hp2
  have hv' := red_ok hv (Nat.min_le_right _ _) hred
  have hr := red_rdy hv.2.2.1 hv.2.1.1 (Nat.min_le_right _ _) hred
  obtain ⟨k, hk⟩ : ∃ k, min n.toNat (rdy rd l) = k := ⟨_, rfl⟩
  rw [hk] at hrd hred hv' hr
  obtain ⟨r, hrr⟩ : ∃ r, rdy rd l = r := ⟨_, rfl⟩
  have hsz : s.size = k := hred.sz
  have HX : Hid (rdyv rd l fi li = (r : Int)) := Lib.hid (by rw [← hrr]; exact if_pos hv)
  have HO : Hid (rdyv rd' l' fi' li' = ((r - k : Nat) : Int)) := Lib.hid (by rw [hfi, hli, hrd, ← hrr, ← hr]; exact if_pos hv')
  have HVV : Hid (decide (rvok rd' l' fi' li') = true) := Lib.hid (by rw [hrd, hfi, hli]; exact decide_eq_true hv')
  have hkr : k ≤ r ∧ r ≤ 1000000 := by
    rw [← hk, ← hrr]
    refine ⟨Nat.min_le_right _ _, ?_⟩
    cases l with
    | nil => simp [rdy]
    | cons p t =>
      have h1 := rvok_pc hv p (by simp)
      have := hv.1
      have := hv.2.1
      simp only [rdy]
      split <;> omega
  have CX : Hid (∀ W, Below w5.heap.size w5 W → Calls Try.prog 21 #[.agg #[.int .i64 rd, .slice va l.length vc, .int .i64 fi, .int .i64 li]] W fun e w' => e = .returned (.int .i64 (r : Int)) ∧ Below W.heap.size W w') := Lib.hid fun W hW => by rw [← HX.out]; exact irecvready_any _ l rd fi li W (X.out.p.below hW) (by omega) HS.out.2
  have CO : Hid (∀ W, Below w5.heap.size w5 W → Calls Try.prog 21 #[.agg #[.int .i64 rd', .slice voa l'.length voc, .int .i64 fi', .int .i64 li']] W fun e w' => e = .returned (.int .i64 ((r - k : Nat) : Int)) ∧ Below W.heap.size W w') := Lib.hid fun W hW => by rw [← HO.out]; exact irecvready_any _ l' rd' fi' li' W (O.out.p.below hW) (by omega) HS'.out.2
  have CW : Hid (∀ W, Below w5.heap.size w5 W → Calls Try.prog 27 #[.agg #[.int .i64 rd', .slice voa l'.length voc, .int .i64 fi', .int .i64 li']] W fun e w' => e = .returned (.bool true) ∧ Below W.heap.size W w') := Lib.hid fun W hW => by rw [← HVV.out]; exact irvval_any _ l' rd' fi' li' W (O.out.p.below hW) (by omega) HS'.out.2
  have C1 := Lib.hid (up_call (W := w5) CX.out)
  have C2 := Lib.hid (up_call (W := w5) CO.out)
  have C3 := Lib.hid (up_call (W := w5) CW.out)
  have hmn : min n (r : Int) = (s.size : Int) := by rw [hsz, ← hk, hrr]; omega
  have d1 : ((s.size : Int) == min n (r : Int)) = true := by rw [beq_iff_eq]; exact hmn.symm
  have hws : IntKind.i64.wrap (rd + (s.size : Int)) = rd + (s.size : Int) := IntWalk.i64_in _ (by have := hv.1; have := hv.2.1; omega)
  have d2 : (rd' == rd + (s.size : Int)) = true := by rw [beq_iff_eq, hrd, hsz]
  have hwr : IntKind.i64.wrap ((r : Int) - (s.size : Int)) = (r : Int) - (s.size : Int) := IntWalk.i64_in _ (by omega)
  have d3 : (((r - k : Nat) : Int) == (r : Int) - (s.size : Int)) = true := by rw [beq_iff_eq, hsz]; omega
  clear hv hv' hred hrd hfi hli hr hk hrr HX HO HVV CX CO CW hsz hmn
  have qX0 := Up.cell (X.out.f 0)
  have qX1 := Up.cell (X.out.f 1)
  have qX2 := Up.cell (X.out.f 2)
  have qX3 := Up.cell (X.out.f 3)
  have qO0 := Up.cell (O.out.f 0)
  have qO1 := Up.cell (O.out.f 1)
  have qO2 := Up.cell (O.out.f 2)
  have qO3 := Up.cell (O.out.f 3)
  go_upto_region 8 with fail
  refine up_region w5 (Below.refl _ _) (by kernel_rfl) (by kernel_rfl) ?_
  repeat (go_big_quiet_step ((first | (go_at_call 21; first | (with_reducible exact C1.out _) | (with_reducible exact C2.out _)) | (go_at_call 27; (with_reducible exact C3.out _)))))
  refine wpQuiet_nil ?_
  refine up_out ?_
  intro w6 hb6
  have B := Lib.hid (bup B.out hb6)
  clear hb6
  go_wp2_with fail
  go_ret
  exact ⟨rfl, B.out⟩
end Go.Proofs.Ytdhdomnhgcejhaa
