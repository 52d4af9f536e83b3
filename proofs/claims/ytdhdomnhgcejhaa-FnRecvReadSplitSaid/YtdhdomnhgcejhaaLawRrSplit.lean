/- The law FnRecvReadSplit: the walk.  -/
import Derived.Test.YtdhdomnhgcejhaaLawRv
import Derived.Deep.CutBlock
import Derived.BigQuiet
import Derived.Deep.Quiet
import Derived.Deep.QuietTactic
import Derived.Deep.Draws
namespace Go.Proofs.Ytdhdomnhgcejhaa
open Go.RowKit
set_option linter.unusedVariables false
set_option linter.unusedSimpArgs false

set_option maxRecDepth 100000 in
set_option maxHeartbeats 8000000 in
theorem rrsplit_walk (a : Option Addr) (len cap : Nat) (zs : List Int) (a' : Option Addr) (len' cap' : Nat) (zs' : List Int) (w : World) (h : IsRow .u8 w a len cap zs) (h' : IsRow .u8 w a' len' cap' zs') :
    Calls Try.prog 11 #[.slice a len cap, .slice a' len' cap'] w fun e w' => e = .returned (.bool true) ∧ Below w.heap.size w w' := by
  have H := Lib.hid h
  have H' := Lib.hid h'
  clear h h'
  by_cases hl : 1048576 < len
  · go_enter Try.func11, Try.ntmps11
    go_wp2
    go_ret
    exact ⟨rfl, Below.refl _ _⟩
  by_cases hl' : 1048576 < len'
  · go_enter Try.func11, Try.ntmps11
    go_wp2
    go_ret
    exact ⟨rfl, Below.refl _ _⟩
  go_enter Try.func11, Try.ntmps11
  go_wp2_with fail
  refine (drawRr_any a len cap zs w H.out).mono ?_
  rintro e w1 ⟨rd, fi, li, v, l, n, rfl, hb1, ho1, hn1, hbd, hlb⟩
  have HV1 := Lib.hid ho1
  have HN1 := Lib.hid hn1
  have HS := Lib.hid hbd.szd
  obtain ⟨va, vc, rfl⟩ : ∃ a c, v = .slice a l.length c := by obtain ⟨g, c, e, _⟩ := ho1.sl hn1; exact ⟨_, c, e⟩
  obtain ⟨rd', l', fi', li', s, hpv⟩ := ReadV.ex rd l fi li n
  have HP := Lib.hid hpv
  have HS' := Lib.hid hpv.szd.1
  have hss := hpv.szd.2
  have hll : l.length ≤ 1000 ∧ l'.length ≤ 1000 := ⟨HS.out.1, HS'.out.1⟩
  have B := Lib.hid hb1
  have BX := Lib.hid (below_al w1 (.cells #[.int .i64 rd, .slice va l.length vc, .int .i64 fi, .int .i64 li] 30))
  have B := Lib.hid (bup B.out BX.out)
  have X := Lib.hid (Sv.new (rd := rd) (fi := fi) (li := li) ho1.n)
  have HV := Lib.hid (HV1.out.below BX.out)
  clear hb1 ho1 hn1 hbd hpv
  have xc0 := X.out.f 0
  have xc1 := X.out.f 1
  have xc2 := X.out.f 2
  have xc3 := X.out.f 3
  go_wp2_with fail
  generalize w1.alloc (.cells #[.int .i64 rd, .slice va l.length vc, .int .i64 fi, .int .i64 li] 30) = WX at *
  generalize w1.heap.size = bX at *
  refine (iread_got HP.out X.out.p HS.out).mono ?_
  rintro e w2 ⟨vo, rfl, hb2, ho2⟩
  have HV := Lib.hid (HV.out.below hb2)
  clear xc0 xc1 xc2 xc3
  obtain ⟨voa, voc, rfl⟩ : ∃ a c, vo = .slice a l'.length c := by obtain ⟨a, c, e, _⟩ := ho2.n; exact ⟨a, c, e⟩
  have BO := Lib.hid (bup hb2 (below_al w2 (.cells #[.int .i64 rd', .slice voa l'.length voc, .int .i64 fi', .int .i64 li'] 30)))
  have X := Lib.hid (X.out.below BO.out)
  have B := Lib.hid (bup B.out BO.out)
  have O := Lib.hid (Sv.new (rd := rd') (fi := fi') (li := li') ho2.n)
  have HV := Lib.hid (HV.out.below (below_al w2 (.cells #[.int .i64 rd', .slice voa l'.length voc, .int .i64 fi', .int .i64 li'] 30)))
  clear hb2 ho2
  have xc0 := X.out.f 0
  have xc1 := X.out.f 1
  have xc2 := X.out.f 2
  have xc3 := X.out.f 3
  go_wp2_with fail
  generalize w2.alloc (.cells #[.int .i64 rd', .slice voa l'.length voc, .int .i64 fi', .int .i64 li'] 30) = WO at *
  generalize w2.heap.size = bO at *
  refine (sread_got HP.out HV.out HN1.out HS.out).mono ?_
  rintro e w3 ⟨vn, rfl, hb3, ho3⟩
  have HV := Lib.hid (HV.out.below hb3)
  clear xc0 xc1 xc2 xc3
  obtain ⟨vna, vnc, rfl⟩ : ∃ a c, vn = .slice a l'.length c := by obtain ⟨a, c, e, _⟩ := ho3.n; exact ⟨a, c, e⟩
  have BN := Lib.hid (bup hb3 (below_al w3 (.cells #[.int .i64 rd', .slice vna l'.length vnc, .int .i64 fi', .int .i64 li'] 30)))
  have X := Lib.hid (X.out.below BN.out)
  have O := Lib.hid (O.out.below BN.out)
  have B := Lib.hid (bup B.out BN.out)
  have N := Lib.hid (Sv.new (rd := rd') (fi := fi') (li := li') ho3.n)
  have HV := Lib.hid (HV.out.below (below_al w3 (.cells #[.int .i64 rd', .slice vna l'.length vnc, .int .i64 fi', .int .i64 li'] 30)))
  clear hb3 ho3 HV1
  have oc0 := O.out.f 0
  have oc1 := O.out.f 1
  have oc2 := O.out.f 2
  have oc3 := O.out.f 3
  have nc0 := N.out.f 0
  have nc1 := N.out.f 1
  have nc2 := N.out.f 2
  have nc3 := N.out.f 3
  have xc0 := X.out.f 0
  have xc1 := X.out.f 1
  have xc2 := X.out.f 2
  have xc3 := X.out.f 3
  go_wp2_with fail
  generalize w3.alloc (.cells #[.int .i64 rd', .slice vna l'.length vnc, .int .i64 fi', .int .i64 li'] 30) = WN at *
  generalize w3.heap.size = bN at *
  refine (samerv_any rd' fi' li' (.slice voa l'.length voc) (.slice vna l'.length vnc) l' _ O.out.p N.out.p (by omega)).mono ?_
  rintro e w4 ⟨rfl, hb⟩
  have Uw4 := Lib.hid hb
  clear hb
  have X := Lib.hid (X.out.below Uw4.out)
  have O := Lib.hid (O.out.below Uw4.out)
  have N := Lib.hid (N.out.below Uw4.out)
  have B := Lib.hid (bup B.out Uw4.out)
  have HV := Lib.hid (Pcs.of_own (HV.out.below Uw4.out) HN1.out)
  clear oc0 oc1 oc2 oc3
  clear nc0 nc1 nc2 nc3
  clear xc0 xc1 xc2 xc3
  have xc0 := X.out.f 0
  have xc1 := X.out.f 1
  have xc2 := X.out.f 2
  have xc3 := X.out.f 3
  have CV := Lib.hid (srvval_any _ l rd fi li w4 HV.out (by omega) (fun p hp => (HS.out.2 p hp).2))
  go_wp2_with fail
  refine CV.out.mono ?_
  rintro e w5 ⟨rfl, hb⟩
  have X := Lib.hid (X.out.below hb)
  have O := Lib.hid (O.out.below hb)
  have N := Lib.hid (N.out.below hb)
  have B := Lib.hid (bup B.out hb)
  clear hb CV HV HN1 Uw4
  clear xc0 xc1 xc2 xc3
  by_cases hv : rvok rd l fi li
  case neg =>
    rw [decide_eq_false hv]
    clear hv
    have oc0 := O.out.f 0
    have oc1 := O.out.f 1
    have oc2 := O.out.f 2
    have oc3 := O.out.f 3
    have nc0 := N.out.f 0
    have nc1 := N.out.f 1
    have nc2 := N.out.f 2
    have nc3 := N.out.f 3
    go_wp2_with fail
    refine (samerv_any rd' fi' li' (.slice voa l'.length voc) (.slice vna l'.length vnc) l' _ O.out.p N.out.p (by omega)).mono ?_
    rintro e w6 ⟨rfl, hb⟩
    have B := Lib.hid (bup B.out hb)
    clear hb
    go_wp2_with fail
    go_ret
    exact ⟨rfl, B.out⟩
  rw [decide_eq_true hv]
  by_cases h1 : n < 0
  case pos =>
    have dn : decide (n < 0) = true := decide_eq_true h1
    clear hv
    have oc0 := O.out.f 0
    have oc1 := O.out.f 1
    have oc2 := O.out.f 2
    have oc3 := O.out.f 3
    have nc0 := N.out.f 0
    have nc1 := N.out.f 1
    have nc2 := N.out.f 2
    have nc3 := N.out.f 3
    go_wp2_with fail
    refine (samerv_any rd' fi' li' (.slice voa l'.length voc) (.slice vna l'.length vnc) l' _ O.out.p N.out.p (by omega)).mono ?_
    rintro e w6 ⟨rfl, hb⟩
    have B := Lib.hid (bup B.out hb)
    clear hb
    go_wp2_with fail
    go_ret
    exact ⟨rfl, B.out⟩
  have dh1 : decide (n < 0) = false := decide_eq_false h1
  by_cases h2 : 30 < n
  case pos =>
    have dn : decide (30 < n) = true := decide_eq_true h2
    clear hv
    have oc0 := O.out.f 0
    have oc1 := O.out.f 1
    have oc2 := O.out.f 2
    have oc3 := O.out.f 3
    have nc0 := N.out.f 0
    have nc1 := N.out.f 1
    have nc2 := N.out.f 2
    have nc3 := N.out.f 3
    go_wp2_with fail
    refine (samerv_any rd' fi' li' (.slice voa l'.length voc) (.slice vna l'.length vnc) l' _ O.out.p N.out.p (by omega)).mono ?_
    rintro e w6 ⟨rfl, hb⟩
    have B := Lib.hid (bup B.out hb)
    clear hb
    go_wp2_with fail
    go_ret
    exact ⟨rfl, B.out⟩
  have dh2 : decide (30 < n) = false := decide_eq_false h2
  have hp2 := HP.out
  unfold ReadV at hp2
  rw [if_pos ⟨hv, by omega, by omega⟩] at hp2
  obtain ⟨hrd, hfi, hli, hred⟩ := hp2
  have hv' := red_ok hv (Nat.min_le_right _ _) hred
  obtain ⟨b, hbb⟩ : ∃ b : Nat, min ((len' : Int) % 12) (30 - n) = (b : Int) := ⟨(min ((len' : Int) % 12) (30 - n)).toNat, by omega⟩
  have hbl : (b : Int) ≤ 30 - n := by omega
  obtain ⟨ry, ly, fy, zy, u, hpy⟩ := ReadV.ex rd' l' fi' li' (b : Int)
  obtain ⟨rz, lz, fz, zz, t, hpz⟩ := ReadV.ex rd l fi li (n + (b : Int))
  have HPY := Lib.hid hpy
  have HPZ := Lib.hid hpz
  have HSY := Lib.hid hpy.szd.1
  have HSZ := Lib.hid hpz.szd.1
  have HALL : Hid (ry = rz ∧ ly = lz ∧ fy = fz ∧ zy = zz ∧ s ++ u = t) := Lib.hid (by
    have hpy := HPY.out
    have hpz := HPZ.out
    unfold ReadV at hpy hpz
    rw [hfi, hli, hrd] at hpy
    rw [if_pos ⟨hv', by omega, by omega⟩] at hpy
    rw [if_pos ⟨hv, by omega, by omega⟩] at hpz
    obtain ⟨y1, y2, y3, y4⟩ := hpy
    obtain ⟨z1, z2, z3, z4⟩ := hpz
    have hr := red_rdy hv.2.2.1 hv.2.1.1 (Nat.min_le_right _ _) hred
    rw [hr] at y1 y4
    have e : min n.toNat (rdy rd l) + min ((b : Int)).toNat (rdy rd l - min n.toNat (rdy rd l)) = min (n + (b : Int)).toNat (rdy rd l) := by omega
    rw [← e] at z1 z4
    obtain ⟨e1, e2⟩ := red_split hv.2.1.1 hred y4 z4
    exact ⟨by rw [y1, z1]; omega, e1, y2.trans z2.symm, y3.trans z3.symm, e2⟩)
  obtain ⟨rfl, rfl, rfl, rfl, rfl⟩ := HALL.out
  have hsu := HPY.out.szd.2
  have hlb' := HSY.out.1
  have hwn : IntKind.i64.wrap (n + (b : Int)) = n + (b : Int) := IntWalk.i64_in _ (by omega)
  have hw30 : IntKind.i64.wrap (30 - n) = 30 - n := IntWalk.i64_in _ (by omega)
  clear hv hv' hred hrd hfi hli hpy hpz HALL
  have oc0 := O.out.f 0
  have oc1 := O.out.f 1
  have oc2 := O.out.f 2
  have oc3 := O.out.f 3
  go_wp2_with fail
  clear oc0 oc1 oc2 oc3
  refine (iread_got HPY.out O.out.p HS'.out).mono ?_
  rintro e w6 ⟨vy, rfl, hb, ho⟩
  obtain ⟨vya, vyc, rfl⟩ : ∃ a c, vy = .slice a ly.length c := by obtain ⟨a, c, e, _⟩ := ho.n; exact ⟨a, c, e⟩
  have BY := Lib.hid (bup hb (below_al w6 (.cells #[.int .i64 ry, .slice vya ly.length vyc, .int .i64 fy, .int .i64 zy] 30)))
  have X := Lib.hid (X.out.below BY.out)
  have O := Lib.hid (O.out.below BY.out)
  have N := Lib.hid (N.out.below BY.out)
  have B := Lib.hid (bup B.out BY.out)
  have Y := Lib.hid (Sv.new (rd := ry) (fi := fy) (li := zy) ho.n)
  clear hb ho
  have xc0 := X.out.f 0
  have xc1 := X.out.f 1
  have xc2 := X.out.f 2
  have xc3 := X.out.f 3
  go_wp2_with fail
  generalize w6.alloc (.cells #[.int .i64 ry, .slice vya ly.length vyc, .int .i64 fy, .int .i64 zy] 30) = WY at *
  generalize w6.heap.size = bY at *
  clear xc0 xc1 xc2 xc3
  refine (iread_got HPZ.out X.out.p HS.out).mono ?_
  rintro e w7 ⟨vz, rfl, hb, ho⟩
  obtain ⟨vza, vzc, rfl⟩ : ∃ a c, vz = .slice a ly.length c := by obtain ⟨a, c, e, _⟩ := ho.n; exact ⟨a, c, e⟩
  have BZ := Lib.hid (bup hb (below_al w7 (.cells #[.int .i64 ry, .slice vza ly.length vzc, .int .i64 fy, .int .i64 zy] 30)))
  have X := Lib.hid (X.out.below BZ.out)
  have O := Lib.hid (O.out.below BZ.out)
  have N := Lib.hid (N.out.below BZ.out)
  have Y := Lib.hid (Y.out.below BZ.out)
  have B := Lib.hid (bup B.out BZ.out)
  have Z := Lib.hid (Sv.new (rd := ry) (fi := fy) (li := zy) ho.n)
  clear hb ho
  have yc0 := Y.out.f 0
  have yc1 := Y.out.f 1
  have yc2 := Y.out.f 2
  have yc3 := Y.out.f 3
  have zc0 := Z.out.f 0
  have zc1 := Z.out.f 1
  have zc2 := Z.out.f 2
  have zc3 := Z.out.f 3
  go_wp2_with fail
  generalize w7.alloc (.cells #[.int .i64 ry, .slice vza ly.length vzc, .int .i64 fy, .int .i64 zy] 30) = WZ at *
  generalize w7.heap.size = bZ at *
  refine (samerv_any ry fy zy (.slice vya ly.length vyc) (.slice vza ly.length vzc) ly _ Y.out.p Z.out.p (by omega)).mono ?_
  rintro e w9 ⟨rfl, hb⟩
  have B := Lib.hid (bup B.out hb)
  clear hb
  go_wp2_with fail
  go_ret
  exact ⟨rfl, B.out⟩
end Go.Proofs.Ytdhdomnhgcejhaa
