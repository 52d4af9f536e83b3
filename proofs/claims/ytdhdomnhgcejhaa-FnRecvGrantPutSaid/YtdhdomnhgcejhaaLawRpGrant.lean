/- The law FnRecvGrantPut: the walk.  -/
import Derived.Test.YtdhdomnhgcejhaaLawRv
import Derived.Deep.CutBlock
import Derived.BigQuiet
import Derived.Deep.Quiet
import Derived.Deep.QuietTactic
import Derived.Deep.Draws
namespace Go.Proofs.Ytdhdomnhgcejhaa
open Go.RowKit
set_option linter.unusedVariables false
set_option linter.unusedSimpArgs false

set_option maxRecDepth 100000 in
set_option maxHeartbeats 8000000 in
theorem rpgrant_walk (a : Option Addr) (len cap : Nat) (zs : List Int) (w : World) (h : IsRow .u8 w a len cap zs) :
    Calls Try.prog 16 #[.slice a len cap] w fun e w' => e = .returned (.bool true) ∧ Below w.heap.size w w' := by
  have H := Lib.hid h
  clear h
  by_cases hl : 1048576 < len
  · go_enter Try.func16, Try.ntmps16
    go_wp2
    go_ret
    exact ⟨rfl, Below.refl _ _⟩
  go_enter Try.func16, Try.ntmps16
  go_wp2_with fail
  refine (drawRp_any a len cap zs w H.out).mono ?_
  rintro e w1 ⟨rd, fi, li, v, l, off, d, fin, rfl, hb1, ho1, hn1, hbd, hoff, hd13⟩
  have HV1 := Lib.hid ho1
  have HN1 := Lib.hid hn1
  have HS := Lib.hid hbd.szd
  have HBD := Lib.hid hbd
  obtain ⟨va, vc, rfl⟩ : ∃ a c, v = .slice a l.length c := by obtain ⟨g, c, e, _⟩ := ho1.sl hn1; exact ⟨_, c, e⟩
  obtain ⟨rd', l', fi', li', c, hpv⟩ := PutV.ex rd l fi li off d fin
  have HP := Lib.hid hpv
  have HS' := Lib.hid (hpv.szd hbd.szd)
  have hll : l.length ≤ 1000 ∧ l'.length ≤ 1000 := ⟨HS.out.1, HS'.out.1⟩
  have B := Lib.hid hb1
  have BX := Lib.hid (below_al w1 (.cells #[.int .i64 rd, .slice va l.length vc, .int .i64 fi, .int .i64 li] 30))
  have B := Lib.hid (bup B.out BX.out)
  have X := Lib.hid (Sv.new (rd := rd) (fi := fi) (li := li) ho1.n)
  have HV := Lib.hid (HV1.out.below BX.out)
  clear hb1 ho1 hn1 hbd hpv
  have xc0 := X.out.f 0
  have xc1 := X.out.f 1
  have xc2 := X.out.f 2
  have xc3 := X.out.f 3
  go_wp2_with fail
  generalize w1.alloc (.cells #[.int .i64 rd, .slice va l.length vc, .int .i64 fi, .int .i64 li] 30) = WX at *
  generalize w1.heap.size = bX at *
  refine (iput_got HP.out X.out.p HS.out (by omega)).mono ?_
  rintro e w2 ⟨vo, rfl, hb2, ho2⟩
  have HV := Lib.hid (HV.out.below hb2)
  clear xc0 xc1 xc2 xc3
  obtain ⟨voa, voc, rfl⟩ : ∃ a c, vo = .slice a l'.length c := by obtain ⟨a, c, e, _⟩ := ho2.n; exact ⟨a, c, e⟩
  have BO := Lib.hid (bup hb2 (below_al w2 (.cells #[.int .i64 rd', .slice voa l'.length voc, .int .i64 fi', .int .i64 li'] 30)))
  have X := Lib.hid (X.out.below BO.out)
  have B := Lib.hid (bup B.out BO.out)
  have O := Lib.hid (Sv.new (rd := rd') (fi := fi') (li := li') ho2.n)
  have HV := Lib.hid (HV.out.below (below_al w2 (.cells #[.int .i64 rd', .slice voa l'.length voc, .int .i64 fi', .int .i64 li'] 30)))
  clear hb2 ho2
  have xc0 := X.out.f 0
  have xc1 := X.out.f 1
  have xc2 := X.out.f 2
  have xc3 := X.out.f 3
  go_wp2_with fail
  generalize w2.alloc (.cells #[.int .i64 rd', .slice voa l'.length voc, .int .i64 fi', .int .i64 li'] 30) = WO at *
  generalize w2.heap.size = bO at *
  refine (sput_got HP.out HV.out HN1.out HS.out (by omega)).mono ?_
  rintro e w3 ⟨vn, rfl, hb3, ho3⟩
  clear xc0 xc1 xc2 xc3
  obtain ⟨vna, vnc, rfl⟩ : ∃ a c, vn = .slice a l'.length c := by obtain ⟨a, c, e, _⟩ := ho3.n; exact ⟨a, c, e⟩
  have BN := Lib.hid (bup hb3 (below_al w3 (.cells #[.int .i64 rd', .slice vna l'.length vnc, .int .i64 fi', .int .i64 li'] 30)))
  have X := Lib.hid (X.out.below BN.out)
  have O := Lib.hid (O.out.below BN.out)
  have B := Lib.hid (bup B.out BN.out)
  have N := Lib.hid (Sv.new (rd := rd') (fi := fi') (li := li') ho3.n)
  clear hb3 ho3 HV HN1 HV1
  have hcc : (c != c) = false := by simp
  have hce : (c == c) = true := by simp
  have oc0 := O.out.f 0
  have oc1 := O.out.f 1
  have oc2 := O.out.f 2
  have oc3 := O.out.f 3
  have nc0 := N.out.f 0
  have nc1 := N.out.f 1
  have nc2 := N.out.f 2
  have nc3 := N.out.f 3
  go_wp2_with fail
  generalize w3.alloc (.cells #[.int .i64 rd', .slice vna l'.length vnc, .int .i64 fi', .int .i64 li'] 30) = WN at *
  generalize w3.heap.size = bN at *
  refine (samerv_any rd' fi' li' (.slice voa l'.length voc) (.slice vna l'.length vnc) l' _ O.out.p N.out.p (by omega)).mono ?_
  rintro e w4 ⟨rfl, hb⟩
  have Uw4 := Lib.hid hb
  clear hb
  have X := Lib.hid (X.out.below Uw4.out)
  have O := Lib.hid (O.out.below Uw4.out)
  have N := Lib.hid (N.out.below Uw4.out)
  have B := Lib.hid (bup B.out Uw4.out)
  clear oc0 oc1 oc2 oc3
  clear nc0 nc1 nc2 nc3
  by_cases h1 : c = 1
  case neg =>
    have k0 : (c != 1) = true := by rw [bne_iff_ne]; exact h1
    clear h1
    have oc0 := O.out.f 0
    have oc1 := O.out.f 1
    have oc2 := O.out.f 2
    have oc3 := O.out.f 3
    have nc0 := N.out.f 0
    have nc1 := N.out.f 1
    have nc2 := N.out.f 2
    have nc3 := N.out.f 3
    go_wp2_with fail
    refine (samerv_any rd' fi' li' (.slice voa l'.length voc) (.slice vna l'.length vnc) l' _ O.out.p N.out.p (by omega)).mono ?_
    rintro e w5 ⟨rfl, hb⟩
    have B := Lib.hid (bup B.out hb)
    clear hb
    go_wp2_with fail
    go_ret
    exact ⟨rfl, B.out⟩
  have k0 : (c != 1) = false := by rw [h1]; rfl
  obtain ⟨⟨hv, hoo, hdd⟩, hrd, hli, hcp, _, _⟩ := HP.out.yes (by rw [h1]; decide)
  have hov : li < off + (d.size : Int) := by
    have ho : (off.toNat : Int) = off := by omega
    rw [h1] at hcp
    unfold pcode at hcp
    rw [ho] at hcp
    split at hcp
    · assumption
    · split at hcp
      · omega
      · split at hcp <;> omega
  have hli30 := hv.1
  have HG : Hid (GrantV rd l fi li 30 rd l fi 30 true) := Lib.hid (by
    unfold GrantV
    rw [if_pos ⟨hv, by omega, by omega⟩]
    refine ⟨rfl, rfl, rfl, ?_, ?_⟩
    · split <;> omega
    · exact (decide_eq_true (by omega)).symm)
  obtain ⟨rd2, l2, fi2, li2, c2, hpv2⟩ := PutV.ex rd l fi 30 off d fin
  have HP2 := Lib.hid hpv2
  have HS2 := Lib.hid (hpv2.szd HS.out)
  have hl2 := HS2.out.1
  have HR : Hid ((decide (30 < off + (d.size : Int)) == (c2 == 1)) = true) := Lib.hid (by
    have ho : (off.toNat : Int) = off := by omega
    have hv2 : rvok rd l fi 30 := by
      obtain ⟨v1, v2, v3, v4, v5⟩ := hv
      exact ⟨by omega, by omega, v3, by omega, by omega⟩
    have e : c2 = pcode rd l fi 30 off.toNat d fin := by
      have k := hpv2
      unfold PutV at k
      rw [if_pos ⟨hv2, hoo, hdd⟩] at k
      exact k.2.2.1
    rw [beq_iff_eq, Bool.eq_iff_iff, beq_iff_eq, decide_eq_true_eq, e]
    unfold pcode
    rw [ho]
    split
    · rename_i q; exact ⟨fun _ => rfl, fun _ => q⟩
    · rename_i q
      refine ⟨fun k => absurd k q, fun k => ?_⟩
      split at k
      · omega
      · split at k <;> omega)
  have hw : IntKind.i64.wrap (off + (d.size : Int)) = off + (d.size : Int) := IntWalk.i64_in _ (by omega)
  clear hv hoo hdd hrd hli hcp hpv2 hov hli30 h1
  have xc0 := X.out.f 0
  have xc1 := X.out.f 1
  have xc2 := X.out.f 2
  have xc3 := X.out.f 3
  go_wp2_with fail
  clear xc0 xc1 xc2 xc3
  refine (igrant_got HG.out X.out.p HS.out).mono ?_
  rintro e w6 ⟨vy, rfl, hb, ho⟩
  obtain ⟨vya, vyc, rfl⟩ : ∃ a c, vy = .slice a l.length c := by obtain ⟨a, c, e, _⟩ := ho.n; exact ⟨a, c, e⟩
  have BY := Lib.hid (bup hb (below_al w6 (.cells #[.int .i64 rd, .slice vya l.length vyc, .int .i64 fi, .int .i64 30] 30)))
  have X := Lib.hid (X.out.below BY.out)
  have O := Lib.hid (O.out.below BY.out)
  have N := Lib.hid (N.out.below BY.out)
  have B := Lib.hid (bup B.out BY.out)
  have Y := Lib.hid (Sv.new (rd := rd) (fi := fi) (li := 30) ho.n)
  clear hb ho
  have yc0 := Y.out.f 0
  have yc1 := Y.out.f 1
  have yc2 := Y.out.f 2
  have yc3 := Y.out.f 3
  go_wp2_with fail
  generalize w6.alloc (.cells #[.int .i64 rd, .slice vya l.length vyc, .int .i64 fi, .int .i64 30] 30) = WY at *
  generalize w6.heap.size = bY at *
  clear yc0 yc1 yc2 yc3
  refine (iput_got HP2.out Y.out.p HS.out (by omega)).mono ?_
  rintro e w7 ⟨vz, rfl, hb, ho⟩
  obtain ⟨vza, vzc, rfl⟩ : ∃ a c, vz = .slice a l2.length c := by obtain ⟨a, c, e, _⟩ := ho.n; exact ⟨a, c, e⟩
  have B := Lib.hid (bup (bup B.out hb) (below_al w7 (.cells #[.int .i64 rd2, .slice vza l2.length vzc, .int .i64 fi2, .int .i64 li2] 30)))
  clear hb ho
  go_wp2_with fail
  go_ret
  exact ⟨ret_bool HR.out, B.out⟩
end Go.Proofs.Ytdhdomnhgcejhaa
