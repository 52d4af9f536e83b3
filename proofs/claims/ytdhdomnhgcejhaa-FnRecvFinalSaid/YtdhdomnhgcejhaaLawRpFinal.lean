/- The law FnRecvFinal: the walk.  -/
import Derived.Test.YtdhdomnhgcejhaaLawRv
import Derived.Deep.CutBlock
import Derived.BigQuiet
import Derived.Deep.Quiet
import Derived.Deep.QuietTactic
import Derived.Deep.Draws
namespace Go.Proofs.Ytdhdomnhgcejhaa
open Go.RowKit
set_option linter.unusedVariables false
set_option linter.unusedSimpArgs false

set_option maxRecDepth 100000 in
set_option maxHeartbeats 8000000 in
theorem rpfinal_walk (a : Option Addr) (len cap : Nat) (zs : List Int) (w : World) (h : IsRow .u8 w a len cap zs) :
    Calls Try.prog 7 #[.slice a len cap] w fun e w' => e = .returned (.bool true) ∧ Below w.heap.size w w' := by
  have H := Lib.hid h
  clear h
  by_cases hl : 1048576 < len
  · go_enter Try.func7, Try.ntmps7
    go_wp2
    go_ret
    exact ⟨rfl, Below.refl _ _⟩
  go_enter Try.func7, Try.ntmps7
  go_wp2_with fail
  refine (drawRp_any a len cap zs w H.out).mono ?_
  rintro e w1 ⟨rd, fi, li, v, l, off, d, fin, rfl, hb1, ho1, hn1, hbd, hoff, hd13⟩
  have HV1 := Lib.hid ho1
  have HN1 := Lib.hid hn1
  have HS := Lib.hid hbd.szd
  have HBD := Lib.hid hbd
  obtain ⟨va, vc, rfl⟩ : ∃ a c, v = .slice a l.length c := by obtain ⟨g, c, e, _⟩ := ho1.sl hn1; exact ⟨_, c, e⟩
  obtain ⟨rd', l', fi', li', c, hpv⟩ := PutV.ex rd l fi li off d fin
  have HP := Lib.hid hpv
  have HS' := Lib.hid (hpv.szd hbd.szd)
  have hll : l.length ≤ 1000 ∧ l'.length ≤ 1000 := ⟨HS.out.1, HS'.out.1⟩
  have B := Lib.hid hb1
  have BX := Lib.hid (below_al w1 (.cells #[.int .i64 rd, .slice va l.length vc, .int .i64 fi, .int .i64 li] 30))
  have B := Lib.hid (bup B.out BX.out)
  have X := Lib.hid (Sv.new (rd := rd) (fi := fi) (li := li) ho1.n)
  have HV := Lib.hid (HV1.out.below BX.out)
  clear hb1 ho1 hn1 hbd hpv
  have xc0 := X.out.f 0
  have xc1 := X.out.f 1
  have xc2 := X.out.f 2
  have xc3 := X.out.f 3
  go_wp2_with fail
  generalize w1.alloc (.cells #[.int .i64 rd, .slice va l.length vc, .int .i64 fi, .int .i64 li] 30) = WX at *
  generalize w1.heap.size = bX at *
  refine (iput_got HP.out X.out.p HS.out (by omega)).mono ?_
  rintro e w2 ⟨vo, rfl, hb2, ho2⟩
  have HV := Lib.hid (HV.out.below hb2)
  clear xc0 xc1 xc2 xc3
  obtain ⟨voa, voc, rfl⟩ : ∃ a c, vo = .slice a l'.length c := by obtain ⟨a, c, e, _⟩ := ho2.n; exact ⟨a, c, e⟩
  have BO := Lib.hid (bup hb2 (below_al w2 (.cells #[.int .i64 rd', .slice voa l'.length voc, .int .i64 fi', .int .i64 li'] 30)))
  have X := Lib.hid (X.out.below BO.out)
  have B := Lib.hid (bup B.out BO.out)
  have O := Lib.hid (Sv.new (rd := rd') (fi := fi') (li := li') ho2.n)
  have HV := Lib.hid (HV.out.below (below_al w2 (.cells #[.int .i64 rd', .slice voa l'.length voc, .int .i64 fi', .int .i64 li'] 30)))
  clear hb2 ho2
  have xc0 := X.out.f 0
  have xc1 := X.out.f 1
  have xc2 := X.out.f 2
  have xc3 := X.out.f 3
  go_wp2_with fail
  generalize w2.alloc (.cells #[.int .i64 rd', .slice voa l'.length voc, .int .i64 fi', .int .i64 li'] 30) = WO at *
  generalize w2.heap.size = bO at *
  refine (sput_got HP.out HV.out HN1.out HS.out (by omega)).mono ?_
  rintro e w3 ⟨vn, rfl, hb3, ho3⟩
  clear xc0 xc1 xc2 xc3
  obtain ⟨vna, vnc, rfl⟩ : ∃ a c, vn = .slice a l'.length c := by obtain ⟨a, c, e, _⟩ := ho3.n; exact ⟨a, c, e⟩
  have BN := Lib.hid (bup hb3 (below_al w3 (.cells #[.int .i64 rd', .slice vna l'.length vnc, .int .i64 fi', .int .i64 li'] 30)))
  have X := Lib.hid (X.out.below BN.out)
  have O := Lib.hid (O.out.below BN.out)
  have B := Lib.hid (bup B.out BN.out)
  have N := Lib.hid (Sv.new (rd := rd') (fi := fi') (li := li') ho3.n)
  clear hb3 ho3 HV HN1 HV1
  have hcc : (c != c) = false := by simp
  have hce : (c == c) = true := by simp
  have oc0 := O.out.f 0
  have oc1 := O.out.f 1
  have oc2 := O.out.f 2
  have oc3 := O.out.f 3
  have nc0 := N.out.f 0
  have nc1 := N.out.f 1
  have nc2 := N.out.f 2
  have nc3 := N.out.f 3
  go_wp2_with fail
  generalize w3.alloc (.cells #[.int .i64 rd', .slice vna l'.length vnc, .int .i64 fi', .int .i64 li'] 30) = WN at *
  generalize w3.heap.size = bN at *
  refine (samerv_any rd' fi' li' (.slice voa l'.length voc) (.slice vna l'.length vnc) l' _ O.out.p N.out.p (by omega)).mono ?_
  rintro e w4 ⟨rfl, hb⟩
  have Uw4 := Lib.hid hb
  clear hb
  have X := Lib.hid (X.out.below Uw4.out)
  have O := Lib.hid (O.out.below Uw4.out)
  have N := Lib.hid (N.out.below Uw4.out)
  have B := Lib.hid (bup B.out Uw4.out)
  clear oc0 oc1 oc2 oc3
  clear nc0 nc1 nc2 nc3
  by_cases h0 : c = 0
  case neg =>
    have k0 : (c != 0) = true := by rw [bne_iff_ne]; exact h0
    clear h0
    have oc0 := O.out.f 0
    have oc1 := O.out.f 1
    have oc2 := O.out.f 2
    have oc3 := O.out.f 3
    have nc0 := N.out.f 0
    have nc1 := N.out.f 1
    have nc2 := N.out.f 2
    have nc3 := N.out.f 3
    go_wp2_with fail
    refine (samerv_any rd' fi' li' (.slice voa l'.length voc) (.slice vna l'.length vnc) l' _ O.out.p N.out.p (by omega)).mono ?_
    rintro e w5 ⟨rfl, hb⟩
    have B := Lib.hid (bup B.out hb)
    clear hb
    go_wp2_with fail
    go_ret
    exact ⟨rfl, B.out⟩
  have k0 : (c != 0) = false := by rw [h0]; rfl
  have HC := Lib.hid h0
  clear h0
  obtain ⟨⟨hv, hoo, hdd⟩, hrd, hli, hcp, hput, _⟩ := HP.out.yes (by rw [HC.out]; decide)
  have hput := hput HC.out
  have hw : IntKind.i64.wrap (off + (d.size : Int)) = off + (d.size : Int) := IntWalk.i64_in _ (by omega)
  have ho : (off.toNat : Int) = off := by omega
  have hpf : ¬ pfin rd l fi (off + (d.size : Int)) fin := by have := (pcode_zero.1 (show pcode rd l fi li off.toNat d fin = 0 by rw [← hcp]; exact HC.out)).2.1; rwa [ho] at this
  have hfi := hput.fi
  rw [ho] at hfi
  have HF : Hid (0 ≤ fi → fi' = fi) := Lib.hid (fun h => by
    unfold pfin at hpf
    cases fin
    · simpa using hfi
    · rw [hfi]
      simp only [if_true]
      by_cases e : fi = off + (d.size : Int)
      · exact e.symm
      · exact absurd (.inl ⟨rfl, .inl ⟨h, e⟩⟩) hpf)
  clear hv hoo hdd hrd hli hcp hput hpf ho
  have xc2 := X.out.f 2
  have oc2 := O.out.f 2
  by_cases h1 : fi < 0
  case pos =>
    have d1 : decide (fi < 0) = true := decide_eq_true h1
    clear HF
    cases fin
    · go_wp2_with fail
      go_ret
      exact ⟨rfl, B.out⟩
    · have d3 : (fi' == off + (d.size : Int)) = true := by rw [beq_iff_eq, hfi]; rfl
      clear hfi
      go_wp2_with fail
      go_ret
      exact ⟨rfl, B.out⟩
  case neg =>
    have d1 : decide (fi < 0) = false := decide_eq_false h1
    have d2 : (fi' == fi) = true := by rw [beq_iff_eq]; exact HF.out (by omega)
    clear HF
    cases fin
    · go_wp2_with fail
      go_ret
      exact ⟨rfl, B.out⟩
    · have d3 : (fi' == off + (d.size : Int)) = true := by rw [beq_iff_eq, hfi]; rfl
      clear hfi
      go_wp2_with fail
      go_ret
      exact ⟨rfl, B.out⟩
end Go.Proofs.Ytdhdomnhgcejhaa
