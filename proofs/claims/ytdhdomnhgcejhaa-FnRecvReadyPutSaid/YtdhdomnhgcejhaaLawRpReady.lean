/- The law FnRecvReadyPut: the walk.  -/
import Derived.Test.YtdhdomnhgcejhaaLawRv
import Derived.Deep.CutBlock
import Derived.BigQuiet
import Derived.Deep.Quiet
import Derived.Deep.QuietTactic
import Derived.Deep.Draws
namespace Go.Proofs.Ytdhdomnhgcejhaa
open Go.RowKit
set_option linter.unusedVariables false
set_option linter.unusedSimpArgs false

set_option maxRecDepth 100000 in
set_option maxHeartbeats 8000000 in
theorem rpready_walk (a : Option Addr) (len cap : Nat) (zs : List Int) (w : World) (h : IsRow .u8 w a len cap zs) :
    Calls Try.prog 14 #[.slice a len cap] w fun e w' => e = .returned (.bool true) ∧ Below w.heap.size w w' := by
  have H := Lib.hid h
  clear h
  by_cases hl : 1048576 < len
  · go_enter Try.func14, Try.ntmps14
    go_wp2
    go_ret
    exact ⟨rfl, Below.refl _ _⟩
  go_enter Try.func14, Try.ntmps14
  go_wp2_with fail
  refine (drawRp_any a len cap zs w H.out).mono ?_
  rintro e w1 ⟨rd, fi, li, v, l, off, d, fin, rfl, hb1, ho1, hn1, hbd, hoff, hd13⟩
  have HV1 := Lib.hid ho1
  have HN1 := Lib.hid hn1
  have HS := Lib.hid hbd.szd
  have HBD := Lib.hid hbd
  obtain ⟨va, vc, rfl⟩ : ∃ a c, v = .slice a l.length c := by obtain ⟨g, c, e, _⟩ := ho1.sl hn1; exact ⟨_, c, e⟩
  obtain ⟨rd', l', fi', li', c, hpv⟩ := PutV.ex rd l fi li off d fin
  have HP := Lib.hid hpv
  have HS' := Lib.hid (hpv.szd hbd.szd)
  have hll : l.length ≤ 1000 ∧ l'.length ≤ 1000 := ⟨HS.out.1, HS'.out.1⟩
  have B := Lib.hid hb1
  have BX := Lib.hid (below_al w1 (.cells #[.int .i64 rd, .slice va l.length vc, .int .i64 fi, .int .i64 li] 30))
  have B := Lib.hid (bup B.out BX.out)
  have X := Lib.hid (Sv.new (rd := rd) (fi := fi) (li := li) ho1.n)
  have HV := Lib.hid (HV1.out.below BX.out)
  clear hb1 ho1 hn1 hbd hpv
  have xc0 := X.out.f 0
  have xc1 := X.out.f 1
  have xc2 := X.out.f 2
  have xc3 := X.out.f 3
  go_wp2_with fail
  generalize w1.alloc (.cells #[.int .i64 rd, .slice va l.length vc, .int .i64 fi, .int .i64 li] 30) = WX at *
  generalize w1.heap.size = bX at *
  refine (iput_got HP.out X.out.p HS.out (by omega)).mono ?_
  rintro e w2 ⟨vo, rfl, hb2, ho2⟩
  have HV := Lib.hid (HV.out.below hb2)
  clear xc0 xc1 xc2 xc3
  obtain ⟨voa, voc, rfl⟩ : ∃ a c, vo = .slice a l'.length c := by obtain ⟨a, c, e, _⟩ := ho2.n; exact ⟨a, c, e⟩
  have BO := Lib.hid (bup hb2 (below_al w2 (.cells #[.int .i64 rd', .slice voa l'.length voc, .int .i64 fi', .int .i64 li'] 30)))
  have X := Lib.hid (X.out.below BO.out)
  have B := Lib.hid (bup B.out BO.out)
  have O := Lib.hid (Sv.new (rd := rd') (fi := fi') (li := li') ho2.n)
  have HV := Lib.hid (HV.out.below (below_al w2 (.cells #[.int .i64 rd', .slice voa l'.length voc, .int .i64 fi', .int .i64 li'] 30)))
  clear hb2 ho2
  have xc0 := X.out.f 0
  have xc1 := X.out.f 1
  have xc2 := X.out.f 2
  have xc3 := X.out.f 3
  go_wp2_with fail
  generalize w2.alloc (.cells #[.int .i64 rd', .slice voa l'.length voc, .int .i64 fi', .int .i64 li'] 30) = WO at *
  generalize w2.heap.size = bO at *
  refine (sput_got HP.out HV.out HN1.out HS.out (by omega)).mono ?_
  rintro e w3 ⟨vn, rfl, hb3, ho3⟩
  clear xc0 xc1 xc2 xc3
  obtain ⟨vna, vnc, rfl⟩ : ∃ a c, vn = .slice a l'.length c := by obtain ⟨a, c, e, _⟩ := ho3.n; exact ⟨a, c, e⟩
  have BN := Lib.hid (bup hb3 (below_al w3 (.cells #[.int .i64 rd', .slice vna l'.length vnc, .int .i64 fi', .int .i64 li'] 30)))
  have X := Lib.hid (X.out.below BN.out)
  have O := Lib.hid (O.out.below BN.out)
  have B := Lib.hid (bup B.out BN.out)
  have N := Lib.hid (Sv.new (rd := rd') (fi := fi') (li := li') ho3.n)
  clear hb3 ho3 HV HN1 HV1
  have hcc : (c != c) = false := by simp
  have hce : (c == c) = true := by simp
  have oc0 := O.out.f 0
  have oc1 := O.out.f 1
  have oc2 := O.out.f 2
  have oc3 := O.out.f 3
  have nc0 := N.out.f 0
  have nc1 := N.out.f 1
  have nc2 := N.out.f 2
  have nc3 := N.out.f 3
  go_wp2_with fail
  generalize w3.alloc (.cells #[.int .i64 rd', .slice vna l'.length vnc, .int .i64 fi', .int .i64 li'] 30) = WN at *
  generalize w3.heap.size = bN at *
  refine (samerv_any rd' fi' li' (.slice voa l'.length voc) (.slice vna l'.length vnc) l' _ O.out.p N.out.p (by omega)).mono ?_
  rintro e w4 ⟨rfl, hb⟩
  have Uw4 := Lib.hid hb
  clear hb
  have X := Lib.hid (X.out.below Uw4.out)
  have O := Lib.hid (O.out.below Uw4.out)
  have N := Lib.hid (N.out.below Uw4.out)
  have B := Lib.hid (bup B.out Uw4.out)
  clear oc0 oc1 oc2 oc3
  clear nc0 nc1 nc2 nc3
  by_cases h0 : c = 0
  case neg =>
    have k0 : (c != 0) = true := by rw [bne_iff_ne]; exact h0
    clear h0
    have oc0 := O.out.f 0
    have oc1 := O.out.f 1
    have oc2 := O.out.f 2
    have oc3 := O.out.f 3
    have nc0 := N.out.f 0
    have nc1 := N.out.f 1
    have nc2 := N.out.f 2
    have nc3 := N.out.f 3
    go_wp2_with fail
    refine (samerv_any rd' fi' li' (.slice voa l'.length voc) (.slice vna l'.length vnc) l' _ O.out.p N.out.p (by omega)).mono ?_
    rintro e w5 ⟨rfl, hb⟩
    have B := Lib.hid (bup B.out hb)
    clear hb
    go_wp2_with fail
    go_ret
    exact ⟨rfl, B.out⟩
  have k0 : (c != 0) = false := by rw [h0]; rfl
  have HC := Lib.hid h0
  clear h0
  obtain ⟨⟨hv, hoo, hdd⟩, hrd, hli, hcp, hput, _⟩ := HP.out.yes (by rw [HC.out]; decide)
  have hput := hput HC.out
  have hc0 : pcode rd l fi li off.toNat d fin = 0 := by rw [← hcp]; exact HC.out
  have hv' := put_ok hv hc0 hput
  have hle := put_ready hv.2.2.1 hv.2.1.1 hput
  have HX : Hid (rdyv rd l fi li = (rdy rd l : Int)) := Lib.hid (if_pos hv)
  have HO : Hid (rdyv rd' l' fi' li' = (rdy rd l' : Int)) := Lib.hid (by rw [hrd, hli]; exact if_pos hv')
  have CX : Hid (∀ W, Below w4.heap.size w4 W → Calls Try.prog 21 #[.agg #[.int .i64 rd, .slice va l.length vc, .int .i64 fi, .int .i64 li]] W fun e w' => e = .returned (.int .i64 (rdy rd l : Int)) ∧ Below W.heap.size W w') := Lib.hid fun W hW => by rw [← HX.out]; exact irecvready_any _ l rd fi li W (X.out.p.below hW) (by omega) HS.out.2
  have CO : Hid (∀ W, Below w4.heap.size w4 W → Calls Try.prog 21 #[.agg #[.int .i64 rd', .slice voa l'.length voc, .int .i64 fi', .int .i64 li']] W fun e w' => e = .returned (.int .i64 (rdy rd l' : Int)) ∧ Below W.heap.size W w') := Lib.hid fun W hW => by rw [← HO.out]; exact irecvready_any _ l' rd' fi' li' W (O.out.p.below hW) (by omega) HS'.out.2
  have C1 := Lib.hid (up_call (W := w4) CX.out)
  have C2 := Lib.hid (up_call (W := w4) CO.out)
  have d1 : decide ((rdy rd l : Int) ≤ (rdy rd l' : Int)) = true := decide_eq_true (by omega)
  have d2 : (rdy rd l : Int) ≤ (rdy rd l' : Int) := by omega
  generalize rdy rd l = r1 at *
  generalize rdy rd l' = r2 at *
  clear hv hoo hdd hrd hli hcp hput hc0 hv' hle HX HO CX CO
  have qX0 := Up.cell (X.out.f 0)
  have qX1 := Up.cell (X.out.f 1)
  have qX2 := Up.cell (X.out.f 2)
  have qX3 := Up.cell (X.out.f 3)
  have qO0 := Up.cell (O.out.f 0)
  have qO1 := Up.cell (O.out.f 1)
  have qO2 := Up.cell (O.out.f 2)
  have qO3 := Up.cell (O.out.f 3)
  go_wp2_with fail
  refine up_region w4 (Below.refl _ _) (by kernel_rfl) (by kernel_rfl) ?_
  repeat (go_big_quiet_step ((first | (go_at_call 21; first | (with_reducible exact C1.out _) | (with_reducible exact C2.out _)))))
  refine wpQuiet_nil ?_
  refine up_out ?_
  intro w5 hb5
  have B := Lib.hid (bup B.out hb5)
  clear hb5
  go_wp2_with fail
  go_ret
  exact ⟨rfl, B.out⟩
end Go.Proofs.Ytdhdomnhgcejhaa
