/- The law FnRecvOrder: the walk.  -/
import Derived.Test.YtdhdomnhgcejhaaLawRv
import Derived.Deep.CutBlock
import Derived.BigQuiet
import Derived.Deep.Quiet
import Derived.Deep.QuietTactic
import Derived.Deep.Draws
namespace Go.Proofs.Ytdhdomnhgcejhaa
open Go.RowKit
set_option linter.unusedVariables false
set_option linter.unusedSimpArgs false

theorem order_conf2 {rd : Int} {l l' m1 : List Qc} {fi li fi' g1 : Int} {o p : Nat} {d e : ByteArray} {fin gin : Bool} (hv : rvok rd l fi li) (hc : pcode rd l fi li o d fin = 0) (h : Put rd l fi li o d fin l' fi') (hc2 : pcode rd l' fi' li p e gin = 0) (k1 : Put rd l fi li p e gin m1 g1) : ¬ pconf (pat m1) o d := by
  rintro ⟨k, hk, h1, h2⟩
  obtain ⟨_, _, c3⟩ := pcode_zero.1 hc
  obtain ⟨_, _, d3⟩ := pcode_zero.1 hc2
  have hr : rd ≤ ((o + k : Nat) : Int) := by
    by_cases q : rd ≤ ((o + k : Nat) : Int)
    · exact q
    · rw [pat_lt k1.pc.1 (by omega)] at h1
      omega
  have e1 := k1.pc.2 (o + k)
  rw [if_pos hr] at e1
  by_cases hi : p ≤ o + k ∧ o + k < p + e.size
  · rw [pnew_in hi] at e1
    have e2 := h.pc.2 (o + k)
    rw [if_pos hr, pnew_in ⟨by omega, by omega⟩, show o + k - o = k by omega] at e2
    refine d3 ⟨o + k - p, by omega, ?_, ?_⟩
    · rw [show p + (o + k - p) = o + k by omega, e2]; exact (dat_bd _ _).1
    · rw [show p + (o + k - p) = o + k by omega, e2, ← e1]; exact fun q => h2 q.symm
  · rw [pnew_out hi] at e1
    rw [e1] at h1 h2
    exact c3 ⟨k, hk, h1, h2⟩
theorem order_conf {rd : Int} {l l' : List Qc} {fi li fi' : Int} {o p : Nat} {d e : ByteArray} {fin gin : Bool} (hv : rvok rd l fi li) (hc : pcode rd l fi li o d fin = 0) (h : Put rd l fi li o d fin l' fi') (hc2 : pcode rd l' fi' li p e gin = 0) : ¬ pconf (pat l) p e := by
  rintro ⟨k, hk, h1, h2⟩
  obtain ⟨_, _, c3⟩ := pcode_zero.1 hc
  obtain ⟨_, _, d3⟩ := pcode_zero.1 hc2
  refine d3 ⟨k, hk, ?_⟩
  have hr : rd ≤ ((p + k : Nat) : Int) := by
    by_cases q : rd ≤ ((p + k : Nat) : Int)
    · exact q
    · rw [pat_lt hv.2.2.1 (by omega)] at h1
      omega
  have hh := (h.has hv.2.2.1 (p + k)).2 (.inl h1)
  refine ⟨hh, ?_⟩
  have e1 := h.pc.2 (p + k)
  rw [if_pos hr] at e1
  rw [e1]
  by_cases hi : o ≤ p + k ∧ p + k < o + d.size
  · rw [pnew_in hi]
    intro e2
    have hne : pat l (p + k) ≠ dat d (p + k - o) := fun e3 => h2 (by rw [e3, e2])
    exact c3 ⟨p + k - o, by omega, by rw [show o + (p + k - o) = p + k by omega]; exact h1, by rw [show o + (p + k - o) = p + k by omega]; exact hne⟩
  · rw [pnew_out hi]; exact h2
set_option maxRecDepth 100000 in
set_option maxHeartbeats 8000000 in
theorem rporder_walk (a : Option Addr) (len cap : Nat) (zs : List Int) (a' : Option Addr) (len' cap' : Nat) (zs' : List Int) (w : World) (h : IsRow .u8 w a len cap zs) (h' : IsRow .u8 w a' len' cap' zs') :
    Calls Try.prog 9 #[.slice a len cap, .slice a' len' cap'] w fun e w' => e = .returned (.bool true) ∧ Below w.heap.size w w' := by
  have H := Lib.hid h
  have H' := Lib.hid h'
  clear h h'
  by_cases hl : 1048576 < len
  · go_enter Try.func9, Try.ntmps9
    go_wp2
    go_ret
    exact ⟨rfl, Below.refl _ _⟩
  by_cases hl' : 1048576 < len'
  · go_enter Try.func9, Try.ntmps9
    go_wp2
    go_ret
    exact ⟨rfl, Below.refl _ _⟩
  go_enter Try.func9, Try.ntmps9
  go_wp2_with fail
  refine (drawRp_any a len cap zs w H.out).mono ?_
  rintro e w1 ⟨rd, fi, li, v, l, off, d, fin, rfl, hb1, ho1, hn1, hbd, hoff, hd13⟩
  have HV1 := Lib.hid ho1
  have HN1 := Lib.hid hn1
  have HS := Lib.hid hbd.szd
  have HBD := Lib.hid hbd
  obtain ⟨va, vc, rfl⟩ : ∃ a c, v = .slice a l.length c := by obtain ⟨g, c, e, _⟩ := ho1.sl hn1; exact ⟨_, c, e⟩
  obtain ⟨rd', l', fi', li', c, hpv⟩ := PutV.ex rd l fi li off d fin
  have HP := Lib.hid hpv
  have HS' := Lib.hid (hpv.szd hbd.szd)
  have hll : l.length ≤ 1000 ∧ l'.length ≤ 1000 := ⟨HS.out.1, HS'.out.1⟩
  have B := Lib.hid hb1
  have BX := Lib.hid (below_al w1 (.cells #[.int .i64 rd, .slice va l.length vc, .int .i64 fi, .int .i64 li] 30))
  have B := Lib.hid (bup B.out BX.out)
  have X := Lib.hid (Sv.new (rd := rd) (fi := fi) (li := li) ho1.n)
  have HV := Lib.hid (HV1.out.below BX.out)
  clear hb1 ho1 hn1 hbd hpv
  have xc0 := X.out.f 0
  have xc1 := X.out.f 1
  have xc2 := X.out.f 2
  have xc3 := X.out.f 3
  go_wp2_with fail
  generalize w1.alloc (.cells #[.int .i64 rd, .slice va l.length vc, .int .i64 fi, .int .i64 li] 30) = WX at *
  generalize w1.heap.size = bX at *
  refine (iput_got HP.out X.out.p HS.out (by omega)).mono ?_
  rintro e w2 ⟨vo, rfl, hb2, ho2⟩
  have HV := Lib.hid (HV.out.below hb2)
  clear xc0 xc1 xc2 xc3
  obtain ⟨voa, voc, rfl⟩ : ∃ a c, vo = .slice a l'.length c := by obtain ⟨a, c, e, _⟩ := ho2.n; exact ⟨a, c, e⟩
  have BO := Lib.hid (bup hb2 (below_al w2 (.cells #[.int .i64 rd', .slice voa l'.length voc, .int .i64 fi', .int .i64 li'] 30)))
  have X := Lib.hid (X.out.below BO.out)
  have B := Lib.hid (bup B.out BO.out)
  have O := Lib.hid (Sv.new (rd := rd') (fi := fi') (li := li') ho2.n)
  have HV := Lib.hid (HV.out.below (below_al w2 (.cells #[.int .i64 rd', .slice voa l'.length voc, .int .i64 fi', .int .i64 li'] 30)))
  clear hb2 ho2
  have xc0 := X.out.f 0
  have xc1 := X.out.f 1
  have xc2 := X.out.f 2
  have xc3 := X.out.f 3
  go_wp2_with fail
  generalize w2.alloc (.cells #[.int .i64 rd', .slice voa l'.length voc, .int .i64 fi', .int .i64 li'] 30) = WO at *
  generalize w2.heap.size = bO at *
  refine (sput_got HP.out HV.out HN1.out HS.out (by omega)).mono ?_
  rintro e w3 ⟨vn, rfl, hb3, ho3⟩
  clear xc0 xc1 xc2 xc3
  obtain ⟨vna, vnc, rfl⟩ : ∃ a c, vn = .slice a l'.length c := by obtain ⟨a, c, e, _⟩ := ho3.n; exact ⟨a, c, e⟩
  have BN := Lib.hid (bup hb3 (below_al w3 (.cells #[.int .i64 rd', .slice vna l'.length vnc, .int .i64 fi', .int .i64 li'] 30)))
  have X := Lib.hid (X.out.below BN.out)
  have O := Lib.hid (O.out.below BN.out)
  have B := Lib.hid (bup B.out BN.out)
  have N := Lib.hid (Sv.new (rd := rd') (fi := fi') (li := li') ho3.n)
  clear hb3 ho3 HV HN1 HV1
  have hcc : (c != c) = false := by simp
  have hce : (c == c) = true := by simp
  have oc0 := O.out.f 0
  have oc1 := O.out.f 1
  have oc2 := O.out.f 2
  have oc3 := O.out.f 3
  have nc0 := N.out.f 0
  have nc1 := N.out.f 1
  have nc2 := N.out.f 2
  have nc3 := N.out.f 3
  go_wp2_with fail
  generalize w3.alloc (.cells #[.int .i64 rd', .slice vna l'.length vnc, .int .i64 fi', .int .i64 li'] 30) = WN at *
  generalize w3.heap.size = bN at *
  refine (samerv_any rd' fi' li' (.slice voa l'.length voc) (.slice vna l'.length vnc) l' _ O.out.p N.out.p (by omega)).mono ?_
  rintro e w4 ⟨rfl, hb⟩
  have Uw4 := Lib.hid hb
  clear hb
  have X := Lib.hid (X.out.below Uw4.out)
  have O := Lib.hid (O.out.below Uw4.out)
  have N := Lib.hid (N.out.below Uw4.out)
  have B := Lib.hid (bup B.out Uw4.out)
  clear oc0 oc1 oc2 oc3
  clear nc0 nc1 nc2 nc3
  by_cases h0 : c = 0
  case neg =>
    have k0 : (c != 0) = true := by rw [bne_iff_ne]; exact h0
    clear h0
    have oc0 := O.out.f 0
    have oc1 := O.out.f 1
    have oc2 := O.out.f 2
    have oc3 := O.out.f 3
    have nc0 := N.out.f 0
    have nc1 := N.out.f 1
    have nc2 := N.out.f 2
    have nc3 := N.out.f 3
    go_wp2_with fail
    refine (samerv_any rd' fi' li' (.slice voa l'.length voc) (.slice vna l'.length vnc) l' _ O.out.p N.out.p (by omega)).mono ?_
    rintro e w5 ⟨rfl, hb⟩
    have B := Lib.hid (bup B.out hb)
    clear hb
    go_wp2_with fail
    go_ret
    exact ⟨rfl, B.out⟩
  by_cases hne0 : d.size = 0 ∧ fin = false
  case pos =>
    have k0 : (c != 0) = false := by rw [h0]; rfl
    have hdt := toList_nil hne0.1
    have hf2 := hne0.2
    clear hne0 h0
    subst hf2
    have oc0 := O.out.f 0
    have oc1 := O.out.f 1
    have oc2 := O.out.f 2
    have oc3 := O.out.f 3
    have nc0 := N.out.f 0
    have nc1 := N.out.f 1
    have nc2 := N.out.f 2
    have nc3 := N.out.f 3
    go_wp2_with fail
    refine (samerv_any rd' fi' li' (.slice voa l'.length voc) (.slice vna l'.length vnc) l' _ O.out.p N.out.p (by omega)).mono ?_
    rintro e w5 ⟨rfl, hb⟩
    have B := Lib.hid (bup B.out hb)
    clear hb
    go_wp2_with fail
    go_ret
    exact ⟨rfl, B.out⟩
  by_cases hdz0 : d.toList = []
  case neg =>
    have k0 : (c != 0) = false := by rw [h0]; rfl
    have HC := Lib.hid h0
    have hde0 : d.toList.isEmpty = false := by rw [Bool.eq_false_iff]; intro e; exact hdz0 (List.isEmpty_iff.1 e)
    clear h0
    have hne : ¬ (d.size = 0 ∧ fin = false) := hne0
    obtain ⟨⟨hv, hoo, hdd⟩, hrd, hli, hcp, hput, _⟩ := HP.out.yes (by rw [HC.out]; decide)
    have hput := hput HC.out
    have hc0 : pcode rd l fi li off.toNat d fin = 0 := by rw [← hcp]; exact HC.out
    have hv' := put_ok hv hc0 hput
    have HD := Lib.hid (show (rvok rd l fi li ∧ (0 ≤ off ∧ off ≤ 30) ∧ d.size ≤ 12) ∧ rd' = rd ∧ li' = li ∧ pcode rd l fi li off.toNat d fin = 0 ∧ Put rd l fi li off.toNat d fin l' fi' ∧ rvok rd l' fi' li from ⟨⟨hv, hoo, hdd⟩, hrd, hli, hc0, hput, hv'⟩)
    have HNE := Lib.hid hne
    clear hv hoo hdd hrd hli hcp hput hc0 hv' hne hne0
    go_wp2_with fail
    refine (drawRp_any a' len' cap' zs' _ (IsRow.keep H'.out (fun y _ _ i u hu => (B.out.cell (World.block_lt_of_cell? w _ hu)).trans hu))).mono ?_
    rintro e w5 ⟨rd2, fi2, li2, v2, m2, off2, d2, fin2, rfl, hb5, ho5, hn5, hbd5, hoff2, hd132⟩
    obtain ⟨v2a, v2c, rfl⟩ : ∃ a c, v2 = .slice a m2.length c := by obtain ⟨g, c, e, _⟩ := ho5.sl hn5; exact ⟨_, c, e⟩
    have BD := Lib.hid (bup hb5 (below_al w5 (.cells #[.int .i64 rd2, .slice v2a m2.length v2c, .int .i64 fi2, .int .i64 li2] 30)))
    have X := Lib.hid (X.out.below BD.out)
    have O := Lib.hid (O.out.below BD.out)
    have N := Lib.hid (N.out.below BD.out)
    have B := Lib.hid (bup B.out BD.out)
    have D := Lib.hid (Sv.new (rd := rd2) (fi := fi2) (li := li2) ho5.n)
    clear hb5 ho5 hn5 hbd5
    obtain ⟨ry, ly, fy, zy, cy, hpy⟩ := PutV.ex rd' l' fi' li' off2 d2 fin2
    have HPY := Lib.hid hpy
    have HSY := Lib.hid (hpy.szd HS'.out)
    have hly := HSY.out.1
    clear hpy
    have oc0 := O.out.f 0
    have oc1 := O.out.f 1
    have oc2 := O.out.f 2
    have oc3 := O.out.f 3
    go_wp2_with fail
    generalize w5.alloc (.cells #[.int .i64 rd2, .slice v2a m2.length v2c, .int .i64 fi2, .int .i64 li2] 30) = WD at *
    generalize w5.heap.size = bD at *
    clear oc0 oc1 oc2 oc3
    refine (iput_got HPY.out O.out.p HS'.out (by omega)).mono ?_
    rintro e w6 ⟨vy, rfl, hb, ho⟩
    obtain ⟨vya, vyc, rfl⟩ : ∃ a c, vy = .slice a ly.length c := by obtain ⟨a, c, e, _⟩ := ho.n; exact ⟨a, c, e⟩
    have BY := Lib.hid (bup hb (below_al w6 (.cells #[.int .i64 ry, .slice vya ly.length vyc, .int .i64 fy, .int .i64 zy] 30)))
    have X := Lib.hid (X.out.below BY.out)
    have O := Lib.hid (O.out.below BY.out)
    have N := Lib.hid (N.out.below BY.out)
    have D := Lib.hid (D.out.below BY.out)
    have B := Lib.hid (bup B.out BY.out)
    have Y := Lib.hid (Sv.new (rd := ry) (fi := fy) (li := zy) ho.n)
    clear hb ho
    by_cases hcy : cy = 0
    case neg =>
      have k1 : (cy != 0) = true := by rw [bne_iff_ne]; exact hcy
      clear hcy
      go_wp2_with fail
      go_ret
      exact ⟨rfl, B.out⟩
    have k1 : (cy != 0) = false := by rw [hcy]; rfl
    by_cases hne2 : d2.size = 0 ∧ fin2 = false
    case pos =>
      have hdt := toList_nil hne2.1
      have hf2 := hne2.2
      clear hne2 hcy
      subst hf2
      go_wp2_with fail
      go_ret
      exact ⟨rfl, B.out⟩
    obtain ⟨ra, la, fa, za, ca, hpa⟩ := PutV.ex rd l fi li off2 d2 fin2
    obtain ⟨rb, lb, fb, zb, cb, hpb⟩ := PutV.ex ra la fa za off d fin
    have HPA := Lib.hid hpa
    have HPB := Lib.hid hpb
    have HSA := Lib.hid (hpa.szd HS.out)
    have HSB := Lib.hid (hpb.szd HSA.out)
    have HALL : Hid (ca = 0 ∧ cb = 0 ∧ rb = ry ∧ lb = ly ∧ fb = fy ∧ zb = zy) := Lib.hid (by
      obtain ⟨⟨hv, hoo, hdd⟩, hrd, hli, hc0, hput, hv'⟩ := HD.out
      obtain ⟨⟨hv2, hoo2, hdd2⟩, hry, hzy, hcp2, hput2, _⟩ := HPY.out.yes (by omega)
      have hput2 := hput2 hcy
      rw [hrd, hli] at hcp2 hput2 hv2
      rw [hrd] at hry
      rw [hli] at hzy
      have hc2 : pcode rd l' fi' li off2.toNat d2 fin2 = 0 := by rw [← hcp2]; exact hcy
      obtain ⟨m1, g1, hk1, hok⟩ : ∃ m1 g1, Put rd l fi li off2.toNat d2 fin2 m1 g1 ∧ True := by
        by_cases hcf : pconf (pat l) off2.toNat d2
        · exact absurd hcf (order_conf hv hc0 hput hc2)
        · exact ⟨_, _, ⟨ladd_isp hv.2.2.1 hcf, rfl⟩, trivial⟩
      obtain ⟨m2', g2, hk2⟩ : ∃ m2' g2, Put rd m1 g1 li off.toNat d fin m2' g2 := by
        exact ⟨_, _, ladd_isp hk1.pc.1 (order_conf2 hv hc0 hput hc2 hk1), rfl⟩
      obtain ⟨e1, e2, e3, e4⟩ := put_order hv hc0 hput hc2 hput2 HNE.out hne2 hk1 hk2
      have hpa := HPA.out
      unfold PutV at hpa
      rw [if_pos ⟨hv, hoo2, hdd2⟩] at hpa
      obtain ⟨p1, p2, p3, p4, _⟩ := hpa
      have ca0 : ca = 0 := by rw [p3]; exact e1
      have p4 := p4 ca0
      have el : la = m1 := p4.pc.uniq hv.2.1.1 hk1.pc
      have ef : fa = g1 := p4.fi.trans hk1.fi.symm
      subst el ef
      have hva := put_ok hv e1 hk1
      have hpb := HPB.out
      rw [p1, p2] at hpb
      unfold PutV at hpb
      rw [if_pos ⟨hva, hoo, hdd⟩] at hpb
      obtain ⟨q1, q2, q3, q4, _⟩ := hpb
      have cb0 : cb = 0 := by rw [q3]; exact e2
      have q4 := q4 cb0
      have el2 : lb = m2' := q4.pc.uniq hv.2.1.1 hk2.pc
      have ef2 : fb = g2 := q4.fi.trans hk2.fi.symm
      exact ⟨ca0, cb0, by rw [q1, hry], el2.trans e3, ef2.trans e4, by rw [q2, hzy]⟩)
    have hne3 : ¬ (d2.toList = [] ∧ fin2 = false) := fun k => hne2 ⟨size_nil k.1, k.2⟩
    obtain ⟨rfl, rfl, rfl, rfl, rfl, rfl⟩ := HALL.out
    clear hpa hpb HALL hcy hne2 HNE HD
    have hla := HSA.out.1
    have hlb := HSB.out.1
    by_cases hdz : d2.toList = []
    case neg =>
      have hde2 : d2.toList.isEmpty = false := by rw [Bool.eq_false_iff]; intro e; exact hdz (List.isEmpty_iff.1 e)
      have xc0 := X.out.f 0
      have xc1 := X.out.f 1
      have xc2 := X.out.f 2
      have xc3 := X.out.f 3
      go_wp2_with fail
      generalize w6.alloc (.cells #[.int .i64 rb, .slice vya lb.length vyc, .int .i64 fb, .int .i64 zb] 30) = WY at *
      generalize w6.heap.size = bY at *
      clear xc0 xc1 xc2 xc3
      refine (iput_got HPA.out X.out.p HS.out (by omega)).mono ?_
      rintro e w7 ⟨vx, rfl, hb, ho⟩
      obtain ⟨vxa, vxc, rfl⟩ : ∃ a c, vx = .slice a la.length c := by obtain ⟨a, c, e, _⟩ := ho.n; exact ⟨a, c, e⟩
      have BA := Lib.hid (bup hb (below_al w7 (.cells #[.int .i64 ra, .slice vxa la.length vxc, .int .i64 fa, .int .i64 za] 30)))
      have X := Lib.hid (X.out.below BA.out)
      have O := Lib.hid (O.out.below BA.out)
      have N := Lib.hid (N.out.below BA.out)
      have D := Lib.hid (D.out.below BA.out)
      have Y := Lib.hid (Y.out.below BA.out)
      have B := Lib.hid (bup B.out BA.out)
      have A := Lib.hid (Sv.new (rd := ra) (fi := fa) (li := za) ho.n)
      clear hb ho
      have ac0 := A.out.f 0
      have ac1 := A.out.f 1
      have ac2 := A.out.f 2
      have ac3 := A.out.f 3
      go_wp2_with fail
      generalize w7.alloc (.cells #[.int .i64 ra, .slice vxa la.length vxc, .int .i64 fa, .int .i64 za] 30) = WA at *
      generalize w7.heap.size = bA at *
      clear ac0 ac1 ac2 ac3
      refine (iput_got HPB.out A.out.p HSA.out (by omega)).mono ?_
      rintro e w8 ⟨vb, rfl, hb, ho⟩
      obtain ⟨vba, vbc, rfl⟩ : ∃ a c, vb = .slice a lb.length c := by obtain ⟨a, c, e, _⟩ := ho.n; exact ⟨a, c, e⟩
      have BE := Lib.hid (bup hb (below_al w8 (.cells #[.int .i64 rb, .slice vba lb.length vbc, .int .i64 fb, .int .i64 zb] 30)))
      have X := Lib.hid (X.out.below BE.out)
      have O := Lib.hid (O.out.below BE.out)
      have N := Lib.hid (N.out.below BE.out)
      have D := Lib.hid (D.out.below BE.out)
      have Y := Lib.hid (Y.out.below BE.out)
      have A := Lib.hid (A.out.below BE.out)
      have B := Lib.hid (bup B.out BE.out)
      have E := Lib.hid (Sv.new (rd := rb) (fi := fb) (li := zb) ho.n)
      clear hb ho
      have ec0 := E.out.f 0
      have ec1 := E.out.f 1
      have ec2 := E.out.f 2
      have ec3 := E.out.f 3
      have yc0 := Y.out.f 0
      have yc1 := Y.out.f 1
      have yc2 := Y.out.f 2
      have yc3 := Y.out.f 3
      go_wp2_with fail
      generalize w8.alloc (.cells #[.int .i64 rb, .slice vba lb.length vbc, .int .i64 fb, .int .i64 zb] 30) = WE at *
      generalize w8.heap.size = bE at *
      refine (samerv_any rb fb zb (.slice vba lb.length vbc) (.slice vya lb.length vyc) lb _ E.out.p Y.out.p (by omega)).mono ?_
      rintro e w9 ⟨rfl, hb⟩
      have B := Lib.hid (bup B.out hb)
      clear hb
      go_wp2_with fail
      go_ret
      exact ⟨rfl, B.out⟩
    case pos =>
      have hf2 : fin2 = true := by cases fin2 with | true => rfl | false => exact absurd ⟨hdz, rfl⟩ hne3
      clear hne3
      subst hf2
      have xc0 := X.out.f 0
      have xc1 := X.out.f 1
      have xc2 := X.out.f 2
      have xc3 := X.out.f 3
      go_wp2_with fail
      generalize w6.alloc (.cells #[.int .i64 rb, .slice vya lb.length vyc, .int .i64 fb, .int .i64 zb] 30) = WY at *
      generalize w6.heap.size = bY at *
      clear xc0 xc1 xc2 xc3
      refine (iput_got HPA.out X.out.p HS.out (by omega)).mono ?_
      rintro e w7 ⟨vx, rfl, hb, ho⟩
      obtain ⟨vxa, vxc, rfl⟩ : ∃ a c, vx = .slice a la.length c := by obtain ⟨a, c, e, _⟩ := ho.n; exact ⟨a, c, e⟩
      have BA := Lib.hid (bup hb (below_al w7 (.cells #[.int .i64 ra, .slice vxa la.length vxc, .int .i64 fa, .int .i64 za] 30)))
      have X := Lib.hid (X.out.below BA.out)
      have O := Lib.hid (O.out.below BA.out)
      have N := Lib.hid (N.out.below BA.out)
      have D := Lib.hid (D.out.below BA.out)
      have Y := Lib.hid (Y.out.below BA.out)
      have B := Lib.hid (bup B.out BA.out)
      have A := Lib.hid (Sv.new (rd := ra) (fi := fa) (li := za) ho.n)
      clear hb ho
      have ac0 := A.out.f 0
      have ac1 := A.out.f 1
      have ac2 := A.out.f 2
      have ac3 := A.out.f 3
      go_wp2_with fail
      generalize w7.alloc (.cells #[.int .i64 ra, .slice vxa la.length vxc, .int .i64 fa, .int .i64 za] 30) = WA at *
      generalize w7.heap.size = bA at *
      clear ac0 ac1 ac2 ac3
      refine (iput_got HPB.out A.out.p HSA.out (by omega)).mono ?_
      rintro e w8 ⟨vb, rfl, hb, ho⟩
      obtain ⟨vba, vbc, rfl⟩ : ∃ a c, vb = .slice a lb.length c := by obtain ⟨a, c, e, _⟩ := ho.n; exact ⟨a, c, e⟩
      have BE := Lib.hid (bup hb (below_al w8 (.cells #[.int .i64 rb, .slice vba lb.length vbc, .int .i64 fb, .int .i64 zb] 30)))
      have X := Lib.hid (X.out.below BE.out)
      have O := Lib.hid (O.out.below BE.out)
      have N := Lib.hid (N.out.below BE.out)
      have D := Lib.hid (D.out.below BE.out)
      have Y := Lib.hid (Y.out.below BE.out)
      have A := Lib.hid (A.out.below BE.out)
      have B := Lib.hid (bup B.out BE.out)
      have E := Lib.hid (Sv.new (rd := rb) (fi := fb) (li := zb) ho.n)
      clear hb ho
      have ec0 := E.out.f 0
      have ec1 := E.out.f 1
      have ec2 := E.out.f 2
      have ec3 := E.out.f 3
      have yc0 := Y.out.f 0
      have yc1 := Y.out.f 1
      have yc2 := Y.out.f 2
      have yc3 := Y.out.f 3
      go_wp2_with fail
      generalize w8.alloc (.cells #[.int .i64 rb, .slice vba lb.length vbc, .int .i64 fb, .int .i64 zb] 30) = WE at *
      generalize w8.heap.size = bE at *
      refine (samerv_any rb fb zb (.slice vba lb.length vbc) (.slice vya lb.length vyc) lb _ E.out.p Y.out.p (by omega)).mono ?_
      rintro e w9 ⟨rfl, hb⟩
      have B := Lib.hid (bup B.out hb)
      clear hb
      go_wp2_with fail
      go_ret
      exact ⟨rfl, B.out⟩
  have k0 : (c != 0) = false := by rw [h0]; rfl
  have HC := Lib.hid h0
  have hff : fin = true := by cases fin with | true => rfl | false => exact absurd ⟨size_nil hdz0, rfl⟩ hne0
  clear h0
  subst hff
  have hne : ¬ (d.size = 0 ∧ true = false) := hne0
  obtain ⟨⟨hv, hoo, hdd⟩, hrd, hli, hcp, hput, _⟩ := HP.out.yes (by rw [HC.out]; decide)
  have hput := hput HC.out
  have hc0 : pcode rd l fi li off.toNat d true = 0 := by rw [← hcp]; exact HC.out
  have hv' := put_ok hv hc0 hput
  have HD := Lib.hid (show (rvok rd l fi li ∧ (0 ≤ off ∧ off ≤ 30) ∧ d.size ≤ 12) ∧ rd' = rd ∧ li' = li ∧ pcode rd l fi li off.toNat d true = 0 ∧ Put rd l fi li off.toNat d true l' fi' ∧ rvok rd l' fi' li from ⟨⟨hv, hoo, hdd⟩, hrd, hli, hc0, hput, hv'⟩)
  have HNE := Lib.hid hne
  clear hv hoo hdd hrd hli hcp hput hc0 hv' hne hne0
  go_wp2_with fail
  refine (drawRp_any a' len' cap' zs' _ (IsRow.keep H'.out (fun y _ _ i u hu => (B.out.cell (World.block_lt_of_cell? w _ hu)).trans hu))).mono ?_
  rintro e w5 ⟨rd2, fi2, li2, v2, m2, off2, d2, fin2, rfl, hb5, ho5, hn5, hbd5, hoff2, hd132⟩
  obtain ⟨v2a, v2c, rfl⟩ : ∃ a c, v2 = .slice a m2.length c := by obtain ⟨g, c, e, _⟩ := ho5.sl hn5; exact ⟨_, c, e⟩
  have BD := Lib.hid (bup hb5 (below_al w5 (.cells #[.int .i64 rd2, .slice v2a m2.length v2c, .int .i64 fi2, .int .i64 li2] 30)))
  have X := Lib.hid (X.out.below BD.out)
  have O := Lib.hid (O.out.below BD.out)
  have N := Lib.hid (N.out.below BD.out)
  have B := Lib.hid (bup B.out BD.out)
  have D := Lib.hid (Sv.new (rd := rd2) (fi := fi2) (li := li2) ho5.n)
  clear hb5 ho5 hn5 hbd5
  obtain ⟨ry, ly, fy, zy, cy, hpy⟩ := PutV.ex rd' l' fi' li' off2 d2 fin2
  have HPY := Lib.hid hpy
  have HSY := Lib.hid (hpy.szd HS'.out)
  have hly := HSY.out.1
  clear hpy
  have oc0 := O.out.f 0
  have oc1 := O.out.f 1
  have oc2 := O.out.f 2
  have oc3 := O.out.f 3
  go_wp2_with fail
  generalize w5.alloc (.cells #[.int .i64 rd2, .slice v2a m2.length v2c, .int .i64 fi2, .int .i64 li2] 30) = WD at *
  generalize w5.heap.size = bD at *
  clear oc0 oc1 oc2 oc3
  refine (iput_got HPY.out O.out.p HS'.out (by omega)).mono ?_
  rintro e w6 ⟨vy, rfl, hb, ho⟩
  obtain ⟨vya, vyc, rfl⟩ : ∃ a c, vy = .slice a ly.length c := by obtain ⟨a, c, e, _⟩ := ho.n; exact ⟨a, c, e⟩
  have BY := Lib.hid (bup hb (below_al w6 (.cells #[.int .i64 ry, .slice vya ly.length vyc, .int .i64 fy, .int .i64 zy] 30)))
  have X := Lib.hid (X.out.below BY.out)
  have O := Lib.hid (O.out.below BY.out)
  have N := Lib.hid (N.out.below BY.out)
  have D := Lib.hid (D.out.below BY.out)
  have B := Lib.hid (bup B.out BY.out)
  have Y := Lib.hid (Sv.new (rd := ry) (fi := fy) (li := zy) ho.n)
  clear hb ho
  by_cases hcy : cy = 0
  case neg =>
    have k1 : (cy != 0) = true := by rw [bne_iff_ne]; exact hcy
    clear hcy
    go_wp2_with fail
    go_ret
    exact ⟨rfl, B.out⟩
  have k1 : (cy != 0) = false := by rw [hcy]; rfl
  by_cases hne2 : d2.size = 0 ∧ fin2 = false
  case pos =>
    have hdt := toList_nil hne2.1
    have hf2 := hne2.2
    clear hne2 hcy
    subst hf2
    go_wp2_with fail
    go_ret
    exact ⟨rfl, B.out⟩
  obtain ⟨ra, la, fa, za, ca, hpa⟩ := PutV.ex rd l fi li off2 d2 fin2
  obtain ⟨rb, lb, fb, zb, cb, hpb⟩ := PutV.ex ra la fa za off d true
  have HPA := Lib.hid hpa
  have HPB := Lib.hid hpb
  have HSA := Lib.hid (hpa.szd HS.out)
  have HSB := Lib.hid (hpb.szd HSA.out)
  have HALL : Hid (ca = 0 ∧ cb = 0 ∧ rb = ry ∧ lb = ly ∧ fb = fy ∧ zb = zy) := Lib.hid (by
    obtain ⟨⟨hv, hoo, hdd⟩, hrd, hli, hc0, hput, hv'⟩ := HD.out
    obtain ⟨⟨hv2, hoo2, hdd2⟩, hry, hzy, hcp2, hput2, _⟩ := HPY.out.yes (by omega)
    have hput2 := hput2 hcy
    rw [hrd, hli] at hcp2 hput2 hv2
    rw [hrd] at hry
    rw [hli] at hzy
    have hc2 : pcode rd l' fi' li off2.toNat d2 fin2 = 0 := by rw [← hcp2]; exact hcy
    obtain ⟨m1, g1, hk1, hok⟩ : ∃ m1 g1, Put rd l fi li off2.toNat d2 fin2 m1 g1 ∧ True := by
      by_cases hcf : pconf (pat l) off2.toNat d2
      · exact absurd hcf (order_conf hv hc0 hput hc2)
      · exact ⟨_, _, ⟨ladd_isp hv.2.2.1 hcf, rfl⟩, trivial⟩
    obtain ⟨m2', g2, hk2⟩ : ∃ m2' g2, Put rd m1 g1 li off.toNat d true m2' g2 := by
      exact ⟨_, _, ladd_isp hk1.pc.1 (order_conf2 hv hc0 hput hc2 hk1), rfl⟩
    obtain ⟨e1, e2, e3, e4⟩ := put_order hv hc0 hput hc2 hput2 HNE.out hne2 hk1 hk2
    have hpa := HPA.out
    unfold PutV at hpa
    rw [if_pos ⟨hv, hoo2, hdd2⟩] at hpa
    obtain ⟨p1, p2, p3, p4, _⟩ := hpa
    have ca0 : ca = 0 := by rw [p3]; exact e1
    have p4 := p4 ca0
    have el : la = m1 := p4.pc.uniq hv.2.1.1 hk1.pc
    have ef : fa = g1 := p4.fi.trans hk1.fi.symm
    subst el ef
    have hva := put_ok hv e1 hk1
    have hpb := HPB.out
    rw [p1, p2] at hpb
    unfold PutV at hpb
    rw [if_pos ⟨hva, hoo, hdd⟩] at hpb
    obtain ⟨q1, q2, q3, q4, _⟩ := hpb
    have cb0 : cb = 0 := by rw [q3]; exact e2
    have q4 := q4 cb0
    have el2 : lb = m2' := q4.pc.uniq hv.2.1.1 hk2.pc
    have ef2 : fb = g2 := q4.fi.trans hk2.fi.symm
    exact ⟨ca0, cb0, by rw [q1, hry], el2.trans e3, ef2.trans e4, by rw [q2, hzy]⟩)
  have hne3 : ¬ (d2.toList = [] ∧ fin2 = false) := fun k => hne2 ⟨size_nil k.1, k.2⟩
  obtain ⟨rfl, rfl, rfl, rfl, rfl, rfl⟩ := HALL.out
  clear hpa hpb HALL hcy hne2 HNE HD
  have hla := HSA.out.1
  have hlb := HSB.out.1
  by_cases hdz : d2.toList = []
  case neg =>
    have hde2 : d2.toList.isEmpty = false := by rw [Bool.eq_false_iff]; intro e; exact hdz (List.isEmpty_iff.1 e)
    have xc0 := X.out.f 0
    have xc1 := X.out.f 1
    have xc2 := X.out.f 2
    have xc3 := X.out.f 3
    go_wp2_with fail
    generalize w6.alloc (.cells #[.int .i64 rb, .slice vya lb.length vyc, .int .i64 fb, .int .i64 zb] 30) = WY at *
    generalize w6.heap.size = bY at *
    clear xc0 xc1 xc2 xc3
    refine (iput_got HPA.out X.out.p HS.out (by omega)).mono ?_
    rintro e w7 ⟨vx, rfl, hb, ho⟩
    obtain ⟨vxa, vxc, rfl⟩ : ∃ a c, vx = .slice a la.length c := by obtain ⟨a, c, e, _⟩ := ho.n; exact ⟨a, c, e⟩
    have BA := Lib.hid (bup hb (below_al w7 (.cells #[.int .i64 ra, .slice vxa la.length vxc, .int .i64 fa, .int .i64 za] 30)))
    have X := Lib.hid (X.out.below BA.out)
    have O := Lib.hid (O.out.below BA.out)
    have N := Lib.hid (N.out.below BA.out)
    have D := Lib.hid (D.out.below BA.out)
    have Y := Lib.hid (Y.out.below BA.out)
    have B := Lib.hid (bup B.out BA.out)
    have A := Lib.hid (Sv.new (rd := ra) (fi := fa) (li := za) ho.n)
    clear hb ho
    have ac0 := A.out.f 0
    have ac1 := A.out.f 1
    have ac2 := A.out.f 2
    have ac3 := A.out.f 3
    go_wp2_with fail
    generalize w7.alloc (.cells #[.int .i64 ra, .slice vxa la.length vxc, .int .i64 fa, .int .i64 za] 30) = WA at *
    generalize w7.heap.size = bA at *
    clear ac0 ac1 ac2 ac3
    refine (iput_got HPB.out A.out.p HSA.out (by omega)).mono ?_
    rintro e w8 ⟨vb, rfl, hb, ho⟩
    obtain ⟨vba, vbc, rfl⟩ : ∃ a c, vb = .slice a lb.length c := by obtain ⟨a, c, e, _⟩ := ho.n; exact ⟨a, c, e⟩
    have BE := Lib.hid (bup hb (below_al w8 (.cells #[.int .i64 rb, .slice vba lb.length vbc, .int .i64 fb, .int .i64 zb] 30)))
    have X := Lib.hid (X.out.below BE.out)
    have O := Lib.hid (O.out.below BE.out)
    have N := Lib.hid (N.out.below BE.out)
    have D := Lib.hid (D.out.below BE.out)
    have Y := Lib.hid (Y.out.below BE.out)
    have A := Lib.hid (A.out.below BE.out)
    have B := Lib.hid (bup B.out BE.out)
    have E := Lib.hid (Sv.new (rd := rb) (fi := fb) (li := zb) ho.n)
    clear hb ho
    have ec0 := E.out.f 0
    have ec1 := E.out.f 1
    have ec2 := E.out.f 2
    have ec3 := E.out.f 3
    have yc0 := Y.out.f 0
    have yc1 := Y.out.f 1
    have yc2 := Y.out.f 2
    have yc3 := Y.out.f 3
    go_wp2_with fail
    generalize w8.alloc (.cells #[.int .i64 rb, .slice vba lb.length vbc, .int .i64 fb, .int .i64 zb] 30) = WE at *
    generalize w8.heap.size = bE at *
    refine (samerv_any rb fb zb (.slice vba lb.length vbc) (.slice vya lb.length vyc) lb _ E.out.p Y.out.p (by omega)).mono ?_
    rintro e w9 ⟨rfl, hb⟩
    have B := Lib.hid (bup B.out hb)
    clear hb
    go_wp2_with fail
    go_ret
    exact ⟨rfl, B.out⟩
  case pos =>
    have hf2 : fin2 = true := by cases fin2 with | true => rfl | false => exact absurd ⟨hdz, rfl⟩ hne3
    clear hne3
    subst hf2
    have xc0 := X.out.f 0
    have xc1 := X.out.f 1
    have xc2 := X.out.f 2
    have xc3 := X.out.f 3
    go_wp2_with fail
    generalize w6.alloc (.cells #[.int .i64 rb, .slice vya lb.length vyc, .int .i64 fb, .int .i64 zb] 30) = WY at *
    generalize w6.heap.size = bY at *
    clear xc0 xc1 xc2 xc3
    refine (iput_got HPA.out X.out.p HS.out (by omega)).mono ?_
    rintro e w7 ⟨vx, rfl, hb, ho⟩
    obtain ⟨vxa, vxc, rfl⟩ : ∃ a c, vx = .slice a la.length c := by obtain ⟨a, c, e, _⟩ := ho.n; exact ⟨a, c, e⟩
    have BA := Lib.hid (bup hb (below_al w7 (.cells #[.int .i64 ra, .slice vxa la.length vxc, .int .i64 fa, .int .i64 za] 30)))
    have X := Lib.hid (X.out.below BA.out)
    have O := Lib.hid (O.out.below BA.out)
    have N := Lib.hid (N.out.below BA.out)
    have D := Lib.hid (D.out.below BA.out)
    have Y := Lib.hid (Y.out.below BA.out)
    have B := Lib.hid (bup B.out BA.out)
    have A := Lib.hid (Sv.new (rd := ra) (fi := fa) (li := za) ho.n)
    clear hb ho
    have ac0 := A.out.f 0
    have ac1 := A.out.f 1
    have ac2 := A.out.f 2
    have ac3 := A.out.f 3
    go_wp2_with fail
    generalize w7.alloc (.cells #[.int .i64 ra, .slice vxa la.length vxc, .int .i64 fa, .int .i64 za] 30) = WA at *
    generalize w7.heap.size = bA at *
    clear ac0 ac1 ac2 ac3
    refine (iput_got HPB.out A.out.p HSA.out (by omega)).mono ?_
    rintro e w8 ⟨vb, rfl, hb, ho⟩
    obtain ⟨vba, vbc, rfl⟩ : ∃ a c, vb = .slice a lb.length c := by obtain ⟨a, c, e, _⟩ := ho.n; exact ⟨a, c, e⟩
    have BE := Lib.hid (bup hb (below_al w8 (.cells #[.int .i64 rb, .slice vba lb.length vbc, .int .i64 fb, .int .i64 zb] 30)))
    have X := Lib.hid (X.out.below BE.out)
    have O := Lib.hid (O.out.below BE.out)
    have N := Lib.hid (N.out.below BE.out)
    have D := Lib.hid (D.out.below BE.out)
    have Y := Lib.hid (Y.out.below BE.out)
    have A := Lib.hid (A.out.below BE.out)
    have B := Lib.hid (bup B.out BE.out)
    have E := Lib.hid (Sv.new (rd := rb) (fi := fb) (li := zb) ho.n)
    clear hb ho
    have ec0 := E.out.f 0
    have ec1 := E.out.f 1
    have ec2 := E.out.f 2
    have ec3 := E.out.f 3
    have yc0 := Y.out.f 0
    have yc1 := Y.out.f 1
    have yc2 := Y.out.f 2
    have yc3 := Y.out.f 3
    go_wp2_with fail
    generalize w8.alloc (.cells #[.int .i64 rb, .slice vba lb.length vbc, .int .i64 fb, .int .i64 zb] 30) = WE at *
    generalize w8.heap.size = bE at *
    refine (samerv_any rb fb zb (.slice vba lb.length vbc) (.slice vya lb.length vyc) lb _ E.out.p Y.out.p (by omega)).mono ?_
    rintro e w9 ⟨rfl, hb⟩
    have B := Lib.hid (bup B.out hb)
    clear hb
    go_wp2_with fail
    go_ret
    exact ⟨rfl, B.out⟩
end Go.Proofs.Ytdhdomnhgcejhaa
