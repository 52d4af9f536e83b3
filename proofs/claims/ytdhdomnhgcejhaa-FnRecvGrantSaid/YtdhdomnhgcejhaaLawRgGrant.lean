/- The law FnRecvGrant: the walk.  -/
import Derived.Test.YtdhdomnhgcejhaaLawRv
import Derived.Deep.CutBlock
import Derived.BigQuiet
import Derived.Deep.Quiet
import Derived.Deep.QuietTactic
import Derived.Deep.Draws
namespace Go.Proofs.Ytdhdomnhgcejhaa
open Go.RowKit
set_option linter.unusedVariables false
set_option linter.unusedSimpArgs false

set_option maxRecDepth 100000 in
set_option maxHeartbeats 8000000 in
theorem rggrant_walk (a : Option Addr) (len cap : Nat) (zs : List Int) (w : World) (h : IsRow .u8 w a len cap zs) :
    Calls Try.prog 15 #[.slice a len cap] w fun e w' => e = .returned (.bool true) ∧ Below w.heap.size w w' := by
  have H := Lib.hid h
  clear h
  by_cases hl : 1048576 < len
  · go_enter Try.func15, Try.ntmps15
    go_wp2
    go_ret
    exact ⟨rfl, Below.refl _ _⟩
  go_enter Try.func15, Try.ntmps15
  go_wp2_with fail
  refine (drawRg_any a len cap zs w H.out).mono ?_
  rintro e w1 ⟨rd, fi, li, v, l, n, rfl, hb1, ho1, hn1, hbd, hlb⟩
  have HV1 := Lib.hid ho1
  have HN1 := Lib.hid hn1
  have HS := Lib.hid hbd.szd
  obtain ⟨va, vc, rfl⟩ : ∃ a c, v = .slice a l.length c := by obtain ⟨g, c, e, _⟩ := ho1.sl hn1; exact ⟨_, c, e⟩
  obtain ⟨rd', l', fi', li', q, hpv⟩ := GrantV.ex rd l fi li n
  have HP := Lib.hid hpv
  have HS' := Lib.hid (hpv.szd hbd.szd)
  have hll : l.length ≤ 1000 ∧ l'.length ≤ 1000 := ⟨HS.out.1, HS'.out.1⟩
  have B := Lib.hid hb1
  have BX := Lib.hid (below_al w1 (.cells #[.int .i64 rd, .slice va l.length vc, .int .i64 fi, .int .i64 li] 30))
  have B := Lib.hid (bup B.out BX.out)
  have X := Lib.hid (Sv.new (rd := rd) (fi := fi) (li := li) ho1.n)
  have HV := Lib.hid (HV1.out.below BX.out)
  clear hb1 ho1 hn1 hbd hpv
  have xc0 := X.out.f 0
  have xc1 := X.out.f 1
  have xc2 := X.out.f 2
  have xc3 := X.out.f 3
  go_wp2_with fail
  generalize w1.alloc (.cells #[.int .i64 rd, .slice va l.length vc, .int .i64 fi, .int .i64 li] 30) = WX at *
  generalize w1.heap.size = bX at *
  refine (igrant_got HP.out X.out.p HS.out).mono ?_
  rintro e w2 ⟨vo, rfl, hb2, ho2⟩
  have HV := Lib.hid (HV.out.below hb2)
  clear xc0 xc1 xc2 xc3
  obtain ⟨voa, voc, rfl⟩ : ∃ a c, vo = .slice a l'.length c := by obtain ⟨a, c, e, _⟩ := ho2.n; exact ⟨a, c, e⟩
  have BO := Lib.hid (bup hb2 (below_al w2 (.cells #[.int .i64 rd', .slice voa l'.length voc, .int .i64 fi', .int .i64 li'] 30)))
  have X := Lib.hid (X.out.below BO.out)
  have B := Lib.hid (bup B.out BO.out)
  have O := Lib.hid (Sv.new (rd := rd') (fi := fi') (li := li') ho2.n)
  have HV := Lib.hid (HV.out.below (below_al w2 (.cells #[.int .i64 rd', .slice voa l'.length voc, .int .i64 fi', .int .i64 li'] 30)))
  clear hb2 ho2
  have xc0 := X.out.f 0
  have xc1 := X.out.f 1
  have xc2 := X.out.f 2
  have xc3 := X.out.f 3
  go_wp2_with fail
  generalize w2.alloc (.cells #[.int .i64 rd', .slice voa l'.length voc, .int .i64 fi', .int .i64 li'] 30) = WO at *
  generalize w2.heap.size = bO at *
  refine (sgrant_got HP.out HV.out HN1.out HS.out).mono ?_
  rintro e w3 ⟨vn, rfl, hb3, ho3⟩
  have HV := Lib.hid (HV.out.below hb3)
  clear xc0 xc1 xc2 xc3
  obtain ⟨vna, vnc, rfl⟩ : ∃ a c, vn = .slice a l'.length c := by obtain ⟨a, c, e, _⟩ := ho3.n; exact ⟨a, c, e⟩
  have BN := Lib.hid (bup hb3 (below_al w3 (.cells #[.int .i64 rd', .slice vna l'.length vnc, .int .i64 fi', .int .i64 li'] 30)))
  have X := Lib.hid (X.out.below BN.out)
  have O := Lib.hid (O.out.below BN.out)
  have B := Lib.hid (bup B.out BN.out)
  have N := Lib.hid (Sv.new (rd := rd') (fi := fi') (li := li') ho3.n)
  have HV := Lib.hid (HV.out.below (below_al w3 (.cells #[.int .i64 rd', .slice vna l'.length vnc, .int .i64 fi', .int .i64 li'] 30)))
  clear hb3 ho3 HV1
  have hcc : (q != q) = false := by simp
  have hce : (q == q) = true := by simp
  have oc0 := O.out.f 0
  have oc1 := O.out.f 1
  have oc2 := O.out.f 2
  have oc3 := O.out.f 3
  have nc0 := N.out.f 0
  have nc1 := N.out.f 1
  have nc2 := N.out.f 2
  have nc3 := N.out.f 3
  go_wp2_with fail
  generalize w3.alloc (.cells #[.int .i64 rd', .slice vna l'.length vnc, .int .i64 fi', .int .i64 li'] 30) = WN at *
  generalize w3.heap.size = bN at *
  refine (samerv_any rd' fi' li' (.slice voa l'.length voc) (.slice vna l'.length vnc) l' _ O.out.p N.out.p (by omega)).mono ?_
  rintro e w4 ⟨rfl, hb⟩
  have Uw4 := Lib.hid hb
  clear hb
  have X := Lib.hid (X.out.below Uw4.out)
  have O := Lib.hid (O.out.below Uw4.out)
  have N := Lib.hid (N.out.below Uw4.out)
  have B := Lib.hid (bup B.out Uw4.out)
  have HV := Lib.hid (Pcs.of_own (HV.out.below Uw4.out) HN1.out)
  clear oc0 oc1 oc2 oc3
  clear nc0 nc1 nc2 nc3
  have nc1 := N.out.f 1
  have nc3 := N.out.f 3
  by_cases hz0 : l'.length = 0
  case neg =>
    have hz : ¬ (l'.length = 0 ∧ li' = 0) := fun k => hz0 k.1
    have dz : ((l'.length : Int) == 0) = false := by rw [beq_eq_false_iff_ne]; omega
    clear hz0
    have hv : rvok rd l fi li ∧ (0 ≤ n ∧ n ≤ 30) := by
      by_cases h : rvok rd l fi li ∧ (0 ≤ n ∧ n ≤ 30)
      · exact h
      · have k := HP.out
        unfold GrantV at k
        rw [if_neg h] at k
        exact absurd ⟨by rw [k.2.1]; rfl, k.2.2.2.1⟩ hz
    have k := HP.out
    unfold GrantV at k
    rw [if_pos hv] at k
    obtain ⟨k1, k2, k3, k4, k5⟩ := k
    have hm : max li n = li' := by rw [k4]; split <;> omega
    have hq : q = decide (li ≤ n) := k5
    have hqq : (q == decide (li ≤ n)) = true := by rw [hq]; simp
    have CV := Lib.hid (fun W (hW : Below w4.heap.size w4 W) => srvval_any _ l rd fi li W (HV.out.below hW) (by omega) (fun p hp => (HS.out.2 p hp).2))
    rw [decide_eq_true hv.1] at CV
    have dn1 : decide (n < 0) = false := decide_eq_false (by omega)
    have dn2 : decide (30 < n) = false := decide_eq_false (by omega)
    clear k4 k5 hv hz hq
    subst k1 k2 k3
    have xc0 := X.out.f 0
    have xc1 := X.out.f 1
    have xc2 := X.out.f 2
    have xc3 := X.out.f 3
    have X3 := Lib.hid (X.out.below (below_al w4 (.cells #[.int .i64 rd', .slice va l'.length vc, .int .i64 fi', .int .i64 li] 30)))
    have x3c0 := X3.out.f 0
    have x3c1 := X3.out.f 1
    have x3c2 := X3.out.f 2
    have x3c3 := X3.out.f 3
    have BY := Lib.hid (below_al w4 (.cells #[.int .i64 rd', .slice va l'.length vc, .int .i64 fi', .int .i64 li'] 30))
    have CW := Lib.hid (CV.out _ BY.out)
    have Y : Hid (Sv (w4.alloc (.cells #[.int .i64 rd', .slice va l'.length vc, .int .i64 fi', .int .i64 li'] 30)) w4.heap.size rd' (.slice va l'.length vc) fi' li' l') := Lib.hid (Sv.new (rd := rd') (fi := fi') (li := li') X.out.p)
    have B := Lib.hid (bup B.out BY.out)
    have X := Lib.hid (X.out.below BY.out)
    have O := Lib.hid (O.out.below BY.out)
    clear CV
    have x2c0 := X.out.f 0
    have x2c1 := X.out.f 1
    have x2c2 := X.out.f 2
    have x2c3 := X.out.f 3
    go_wp2_with fail
    generalize w4.alloc (.cells #[.int .i64 rd', .slice va l'.length vc, .int .i64 fi', .int .i64 li'] 30) = WY at *
    generalize w4.heap.size = bY at *
    clear xc0 xc1 xc2 xc3
    clear x2c0 x2c1 x2c2 x2c3 x3c0 x3c1 x3c2 x3c3 X3
    refine CW.out.mono ?_
    rintro e w5 ⟨rfl, hb⟩
    have X := Lib.hid (X.out.below hb)
    have O := Lib.hid (O.out.below hb)
    have Y := Lib.hid (Y.out.below hb)
    have B := Lib.hid (bup B.out hb)
    clear hb CW
    have xc3 := X.out.f 3
    have oc0 := O.out.f 0
    have oc1 := O.out.f 1
    have oc2 := O.out.f 2
    have oc3 := O.out.f 3
    have yc0 := Y.out.f 0
    have yc1 := Y.out.f 1
    have yc2 := Y.out.f 2
    have yc3 := Y.out.f 3
    go_wp2_with fail
    refine (samerv_any rd' fi' li' (.slice voa l'.length voc) (.slice va l'.length vc) l' _ O.out.p Y.out.p (by omega)).mono ?_
    rintro e w6 ⟨rfl, hb⟩
    have B := Lib.hid (bup B.out hb)
    clear hb
    go_wp2_with fail
    go_ret
    exact ⟨rfl, B.out⟩
  have dz : ((l'.length : Int) == 0) = true := by rw [hz0]; rfl
  by_cases hz1 : li' = 0
  case neg =>
    have hz : ¬ (l'.length = 0 ∧ li' = 0) := fun k => hz1 k.2
    have dz1 : (li' == 0) = false := by rw [beq_eq_false_iff_ne]; exact hz1
    clear hz0 hz1
    have hv : rvok rd l fi li ∧ (0 ≤ n ∧ n ≤ 30) := by
      by_cases h : rvok rd l fi li ∧ (0 ≤ n ∧ n ≤ 30)
      · exact h
      · have k := HP.out
        unfold GrantV at k
        rw [if_neg h] at k
        exact absurd ⟨by rw [k.2.1]; rfl, k.2.2.2.1⟩ hz
    have k := HP.out
    unfold GrantV at k
    rw [if_pos hv] at k
    obtain ⟨k1, k2, k3, k4, k5⟩ := k
    have hm : max li n = li' := by rw [k4]; split <;> omega
    have hq : q = decide (li ≤ n) := k5
    have hqq : (q == decide (li ≤ n)) = true := by rw [hq]; simp
    have CV := Lib.hid (fun W (hW : Below w4.heap.size w4 W) => srvval_any _ l rd fi li W (HV.out.below hW) (by omega) (fun p hp => (HS.out.2 p hp).2))
    rw [decide_eq_true hv.1] at CV
    have dn1 : decide (n < 0) = false := decide_eq_false (by omega)
    have dn2 : decide (30 < n) = false := decide_eq_false (by omega)
    clear k4 k5 hv hz hq
    subst k1 k2 k3
    have xc0 := X.out.f 0
    have xc1 := X.out.f 1
    have xc2 := X.out.f 2
    have xc3 := X.out.f 3
    have X3 := Lib.hid (X.out.below (below_al w4 (.cells #[.int .i64 rd', .slice va l'.length vc, .int .i64 fi', .int .i64 li] 30)))
    have x3c0 := X3.out.f 0
    have x3c1 := X3.out.f 1
    have x3c2 := X3.out.f 2
    have x3c3 := X3.out.f 3
    have BY := Lib.hid (below_al w4 (.cells #[.int .i64 rd', .slice va l'.length vc, .int .i64 fi', .int .i64 li'] 30))
    have CW := Lib.hid (CV.out _ BY.out)
    have Y : Hid (Sv (w4.alloc (.cells #[.int .i64 rd', .slice va l'.length vc, .int .i64 fi', .int .i64 li'] 30)) w4.heap.size rd' (.slice va l'.length vc) fi' li' l') := Lib.hid (Sv.new (rd := rd') (fi := fi') (li := li') X.out.p)
    have B := Lib.hid (bup B.out BY.out)
    have X := Lib.hid (X.out.below BY.out)
    have O := Lib.hid (O.out.below BY.out)
    clear CV
    have x2c0 := X.out.f 0
    have x2c1 := X.out.f 1
    have x2c2 := X.out.f 2
    have x2c3 := X.out.f 3
    go_wp2_with fail
    generalize w4.alloc (.cells #[.int .i64 rd', .slice va l'.length vc, .int .i64 fi', .int .i64 li'] 30) = WY at *
    generalize w4.heap.size = bY at *
    clear xc0 xc1 xc2 xc3
    clear x2c0 x2c1 x2c2 x2c3 x3c0 x3c1 x3c2 x3c3 X3
    refine CW.out.mono ?_
    rintro e w5 ⟨rfl, hb⟩
    have X := Lib.hid (X.out.below hb)
    have O := Lib.hid (O.out.below hb)
    have Y := Lib.hid (Y.out.below hb)
    have B := Lib.hid (bup B.out hb)
    clear hb CW
    have xc3 := X.out.f 3
    have oc0 := O.out.f 0
    have oc1 := O.out.f 1
    have oc2 := O.out.f 2
    have oc3 := O.out.f 3
    have yc0 := Y.out.f 0
    have yc1 := Y.out.f 1
    have yc2 := Y.out.f 2
    have yc3 := Y.out.f 3
    go_wp2_with fail
    refine (samerv_any rd' fi' li' (.slice voa l'.length voc) (.slice va l'.length vc) l' _ O.out.p Y.out.p (by omega)).mono ?_
    rintro e w6 ⟨rfl, hb⟩
    have B := Lib.hid (bup B.out hb)
    clear hb
    go_wp2_with fail
    go_ret
    exact ⟨rfl, B.out⟩
  have dz1 : (li' == 0) = true := by rw [hz1]; rfl
  clear hz0 hz1
  clear nc1 nc3
  have oc0 := O.out.f 0
  have oc1 := O.out.f 1
  have oc2 := O.out.f 2
  have oc3 := O.out.f 3
  have nc0 := N.out.f 0
  have nc1 := N.out.f 1
  have nc2 := N.out.f 2
  have nc3 := N.out.f 3
  go_wp2_with fail
  refine (samerv_any rd' fi' li' (.slice voa l'.length voc) (.slice vna l'.length vnc) l' _ O.out.p N.out.p (by omega)).mono ?_
  rintro e w6 ⟨rfl, hb⟩
  have B := Lib.hid (bup B.out hb)
  clear hb
  go_wp2_with fail
  go_ret
  exact ⟨rfl, B.out⟩
end Go.Proofs.Ytdhdomnhgcejhaa
