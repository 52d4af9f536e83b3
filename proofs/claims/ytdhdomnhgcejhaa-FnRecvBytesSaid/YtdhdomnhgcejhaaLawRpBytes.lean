/- The law FnRecvBytes: the walk.  -/
import Derived.Test.YtdhdomnhgcejhaaLawRv
import Derived.Deep.CutBlock
import Derived.BigQuiet
import Derived.Deep.Quiet
import Derived.Deep.QuietTactic
import Derived.Deep.Draws
namespace Go.Proofs.Ytdhdomnhgcejhaa
open Go.RowKit
set_option linter.unusedVariables false
set_option linter.unusedSimpArgs false

set_option maxRecDepth 100000 in
set_option maxHeartbeats 8000000 in
theorem rpbytes_walk (a : Option Addr) (len cap : Nat) (zs : List Int) (w : World) (h : IsRow .u8 w a len cap zs) :
    Calls Try.prog 8 #[.slice a len cap] w fun e w' => e = .returned (.bool true) ∧ Below w.heap.size w w' := by
  have H := Lib.hid h
  clear h
  by_cases hl : 1048576 < len
  · go_enter Try.func8, Try.ntmps8
    go_wp2
    go_ret
    exact ⟨rfl, Below.refl _ _⟩
  go_enter Try.func8, Try.ntmps8
  go_wp2_with fail
  refine (drawRp_any a len cap zs w H.out).mono ?_
  rintro e w1 ⟨rd, fi, li, v, l, off, d, fin, rfl, hb1, ho1, hn1, hbd, hoff, hd13⟩
  have HV1 := Lib.hid ho1
  have HN1 := Lib.hid hn1
  have HS := Lib.hid hbd.szd
  have HBD := Lib.hid hbd
  obtain ⟨va, vc, rfl⟩ : ∃ a c, v = .slice a l.length c := by obtain ⟨g, c, e, _⟩ := ho1.sl hn1; exact ⟨_, c, e⟩
  obtain ⟨rd', l', fi', li', c, hpv⟩ := PutV.ex rd l fi li off d fin
  have HP := Lib.hid hpv
  have HS' := Lib.hid (hpv.szd hbd.szd)
  have hll : l.length ≤ 1000 ∧ l'.length ≤ 1000 := ⟨HS.out.1, HS'.out.1⟩
  have B := Lib.hid hb1
  have BX := Lib.hid (below_al w1 (.cells #[.int .i64 rd, .slice va l.length vc, .int .i64 fi, .int .i64 li] 30))
  have B := Lib.hid (bup B.out BX.out)
  have X := Lib.hid (Sv.new (rd := rd) (fi := fi) (li := li) ho1.n)
  have HV := Lib.hid (HV1.out.below BX.out)
  clear hb1 ho1 hn1 hbd hpv
  have xc0 := X.out.f 0
  have xc1 := X.out.f 1
  have xc2 := X.out.f 2
  have xc3 := X.out.f 3
  go_wp2_with fail
  generalize w1.alloc (.cells #[.int .i64 rd, .slice va l.length vc, .int .i64 fi, .int .i64 li] 30) = WX at *
  generalize w1.heap.size = bX at *
  refine (iput_got HP.out X.out.p HS.out (by omega)).mono ?_
  rintro e w2 ⟨vo, rfl, hb2, ho2⟩
  have HV := Lib.hid (HV.out.below hb2)
  clear xc0 xc1 xc2 xc3
  obtain ⟨voa, voc, rfl⟩ : ∃ a c, vo = .slice a l'.length c := by obtain ⟨a, c, e, _⟩ := ho2.n; exact ⟨a, c, e⟩
  have BO := Lib.hid (bup hb2 (below_al w2 (.cells #[.int .i64 rd', .slice voa l'.length voc, .int .i64 fi', .int .i64 li'] 30)))
  have X := Lib.hid (X.out.below BO.out)
  have B := Lib.hid (bup B.out BO.out)
  have O := Lib.hid (Sv.new (rd := rd') (fi := fi') (li := li') ho2.n)
  have HV := Lib.hid (HV.out.below (below_al w2 (.cells #[.int .i64 rd', .slice voa l'.length voc, .int .i64 fi', .int .i64 li'] 30)))
  clear hb2 ho2
  have xc0 := X.out.f 0
  have xc1 := X.out.f 1
  have xc2 := X.out.f 2
  have xc3 := X.out.f 3
  go_wp2_with fail
  generalize w2.alloc (.cells #[.int .i64 rd', .slice voa l'.length voc, .int .i64 fi', .int .i64 li'] 30) = WO at *
  generalize w2.heap.size = bO at *
  refine (sput_got HP.out HV.out HN1.out HS.out (by omega)).mono ?_
  rintro e w3 ⟨vn, rfl, hb3, ho3⟩
  clear xc0 xc1 xc2 xc3
  obtain ⟨vna, vnc, rfl⟩ : ∃ a c, vn = .slice a l'.length c := by obtain ⟨a, c, e, _⟩ := ho3.n; exact ⟨a, c, e⟩
  have BN := Lib.hid (bup hb3 (below_al w3 (.cells #[.int .i64 rd', .slice vna l'.length vnc, .int .i64 fi', .int .i64 li'] 30)))
  have X := Lib.hid (X.out.below BN.out)
  have O := Lib.hid (O.out.below BN.out)
  have B := Lib.hid (bup B.out BN.out)
  have N := Lib.hid (Sv.new (rd := rd') (fi := fi') (li := li') ho3.n)
  clear hb3 ho3 HV HN1 HV1
  have hcc : (c != c) = false := by simp
  have hce : (c == c) = true := by simp
  have oc0 := O.out.f 0
  have oc1 := O.out.f 1
  have oc2 := O.out.f 2
  have oc3 := O.out.f 3
  have nc0 := N.out.f 0
  have nc1 := N.out.f 1
  have nc2 := N.out.f 2
  have nc3 := N.out.f 3
  go_wp2_with fail
  generalize w3.alloc (.cells #[.int .i64 rd', .slice vna l'.length vnc, .int .i64 fi', .int .i64 li'] 30) = WN at *
  generalize w3.heap.size = bN at *
  refine (samerv_any rd' fi' li' (.slice voa l'.length voc) (.slice vna l'.length vnc) l' _ O.out.p N.out.p (by omega)).mono ?_
  rintro e w4 ⟨rfl, hb⟩
  have Uw4 := Lib.hid hb
  clear hb
  have X := Lib.hid (X.out.below Uw4.out)
  have O := Lib.hid (O.out.below Uw4.out)
  have N := Lib.hid (N.out.below Uw4.out)
  have B := Lib.hid (bup B.out Uw4.out)
  clear oc0 oc1 oc2 oc3
  clear nc0 nc1 nc2 nc3
  by_cases h0 : c = 0
  case neg =>
    have k0 : (c != 0) = true := by rw [bne_iff_ne]; exact h0
    clear h0
    have oc0 := O.out.f 0
    have oc1 := O.out.f 1
    have oc2 := O.out.f 2
    have oc3 := O.out.f 3
    have nc0 := N.out.f 0
    have nc1 := N.out.f 1
    have nc2 := N.out.f 2
    have nc3 := N.out.f 3
    go_wp2_with fail
    refine (samerv_any rd' fi' li' (.slice voa l'.length voc) (.slice vna l'.length vnc) l' _ O.out.p N.out.p (by omega)).mono ?_
    rintro e w5 ⟨rfl, hb⟩
    have B := Lib.hid (bup B.out hb)
    clear hb
    go_wp2_with fail
    go_ret
    exact ⟨rfl, B.out⟩
  have k0 : (c != 0) = false := by rw [h0]; rfl
  have HC := Lib.hid h0
  clear h0
  obtain ⟨⟨hv, hoo, hdd⟩, hrd, hli, hcp, hput, _⟩ := HP.out.yes (by rw [HC.out]; decide)
  have hput := hput HC.out
  have hc0 : pcode rd l fi li off.toNat d fin = 0 := by rw [← hcp]; exact HC.out
  have hv' := put_ok hv hc0 hput
  obtain ⟨o, ho⟩ : ∃ o : Nat, off = (o : Int) := ⟨off.toNat, by omega⟩
  subst ho
  rw [Int.toNat_natCast] at hput hc0
  have HHAS : Hid (∀ i : Nat, (0 ≤ pat l' i ∨ (i : Int) < rd') ↔ ((0 ≤ pat l i ∨ (i : Int) < rd) ∨ (o ≤ i ∧ i < o + d.size))) := Lib.hid (fun i => by rw [hput.has hv.2.2.1 i, hrd]; omega)
  have K : ∀ {rd : Int} {m : List Qc} {fi li : Int}, rvok rd m fi li → ∀ p ∈ m, -1000000 ≤ p.1 ∧ p.1 ≤ 1000000 ∧ p.2.size ≤ 1000000 := fun h p hp => by
    have k := rvok_pc h p hp
    have k2 := pok_lo h.2.2.1 hp
    have := h.1
    have := h.2.1
    omega
  have KX := Lib.hid (K hv)
  have KO := Lib.hid (K hv')
  clear K
  have CV := Lib.hid (fun W (h : Pcn W (.slice voa l'.length voc) l') => irvval_any (.slice voa l'.length voc) l' rd' fi' li' W h (by omega) HS'.out.2)
  have HVV : Hid (decide (rvok rd' l' fi' li') = true) := Lib.hid (by rw [hrd, hli]; exact decide_eq_true hv')
  rw [HVV.out] at CV
  have hre : (rd' == rd) = true := by rw [beq_iff_eq]; exact hrd
  have hd12 : d.size ≤ 12 := hdd
  have ho30 : o ≤ 30 := by omega
  clear hv hoo hdd hrd hli hcp hput hc0 hv' HVV
  go_wp2_with fail
  go_loopw [11] (fun iv wr => ∃ i : Nat, i ≤ 30 ∧ iv = .int .i64 (i : Int) ∧ Hid (Below w.heap.size w wr) ∧ Hid (Sv wr bX rd (.slice va l.length vc) fi li l) ∧ Hid (Sv wr bO rd' (.slice voa l'.length voc) fi' li' l')) (fun iv _ => 30 - (intOf iv).toNat)
  case atStart => exact ⟨0, by omega, rfl, B, X, O⟩
  case round =>
    clear B X O
    obtain ⟨i, hi, rfl, B, X, O⟩ := hrel
    by_cases hlt : i < 30
    case neg =>
      have hlt' : ¬ (i : Int) < 30 := by omega
      have xc0 := X.out.f 0
      have oc0 := O.out.f 0
      have oc1 := O.out.f 1
      have oc2 := O.out.f 2
      have oc3 := O.out.f 3
      have C1 := Lib.hid (CV.out wr O.out.p)
      go_wp2_with fail
      refine C1.out.mono ?_
      rintro e w8 ⟨rfl, hb⟩
      have X := Lib.hid (X.out.below hb)
      have O := Lib.hid (O.out.below hb)
      have B := Lib.hid (bup B.out hb)
      clear hb
      clear xc0
      clear oc0 oc1 oc2 oc3
      have xc0 := X.out.f 0
      have oc0 := O.out.f 0
      go_wp2_with fail
      go_ret
      exact ⟨rfl, B.out⟩
    have hlt' : (i : Int) < 30 := by omega
    have hh := HHAS.out i
    have CX := Lib.hid (up_call (W := wr) fun W hW => rvhas_any rd fi li (.slice va l.length vc) l i W (X.out.p.below hW) (by omega) (by omega) KX.out)
    have CO := Lib.hid (up_call (W := wr) fun W hW => rvhas_any rd' fi' li' (.slice voa l'.length voc) l' i W (O.out.p.below hW) (by omega) (by omega) KO.out)
    have qX0 := Up.cell (X.out.f 0)
    have qX1 := Up.cell (X.out.f 1)
    have qX2 := Up.cell (X.out.f 2)
    have qX3 := Up.cell (X.out.f 3)
    have qO0 := Up.cell (O.out.f 0)
    have qO1 := Up.cell (O.out.f 1)
    have qO2 := Up.cell (O.out.f 2)
    have qO3 := Up.cell (O.out.f 3)
    have hw : IntKind.i64.wrap ((o : Int) + (d.size : Int)) = (o : Int) + (d.size : Int) := IntWalk.i64_in _ (by omega)
    by_cases hx : 0 ≤ pat l i ∨ (i : Int) < rd
    case pos =>
      rw [decide_eq_true hx] at CX
      rw [decide_eq_true (hh.2 (.inl hx))] at CO
      clear hh hx
      go_upto_region 11 with fail
      refine up_region wr (Below.refl _ _) (by kernel_rfl) (by kernel_rfl) ?_
      repeat (go_big_quiet_step ((first | (go_at_call 26; first | (with_reducible exact CO.out _) | (with_reducible exact CX.out _)))))
      refine wpQuiet_nil ?_
      refine up_out ?_
      intro w8 hb
      have X := Lib.hid (X.out.below hb)
      have O := Lib.hid (O.out.below hb)
      have B := Lib.hid (bup B.out hb)
      clear hb CX CO qX0 qX1 qX2 qX3 qO0 qO1 qO2 qO3
      go_wp2_with fail
      go_roundw
      case rel => exact ⟨i + 1, by omega, by go_num, B, X, O⟩
      case measure => simp [intOf]; omega
    rw [decide_eq_false hx] at CX
    by_cases h1 : (o : Int) ≤ (i : Int)
    case neg =>
      have d1 : decide ((o : Int) ≤ (i : Int)) = false := decide_eq_false h1
      rw [decide_eq_false (fun k => (hh.1 k).elim hx (fun k => by omega))] at CO
      clear hh hx
      go_upto_region 11 with fail
      refine up_region wr (Below.refl _ _) (by kernel_rfl) (by kernel_rfl) ?_
      repeat (go_big_quiet_step ((first | (go_at_call 26; first | (with_reducible exact CO.out _) | (with_reducible exact CX.out _)))))
      refine wpQuiet_nil ?_
      refine up_out ?_
      intro w8 hb
      have X := Lib.hid (X.out.below hb)
      have O := Lib.hid (O.out.below hb)
      have B := Lib.hid (bup B.out hb)
      clear hb CX CO qX0 qX1 qX2 qX3 qO0 qO1 qO2 qO3
      go_wp2_with fail
      go_roundw
      case rel => exact ⟨i + 1, by omega, by go_num, B, X, O⟩
      case measure => simp [intOf]; omega
    have d1 : decide ((o : Int) ≤ (i : Int)) = true := decide_eq_true h1
    by_cases h2 : (i : Int) < (o : Int) + (d.size : Int)
    case neg =>
      have d2 : decide ((i : Int) < (o : Int) + (d.size : Int)) = false := decide_eq_false h2
      rw [decide_eq_false (fun k => (hh.1 k).elim hx (fun k => by omega))] at CO
      clear hh hx
      go_upto_region 11 with fail
      refine up_region wr (Below.refl _ _) (by kernel_rfl) (by kernel_rfl) ?_
      repeat (go_big_quiet_step ((first | (go_at_call 26; first | (with_reducible exact CO.out _) | (with_reducible exact CX.out _)))))
      refine wpQuiet_nil ?_
      refine up_out ?_
      intro w8 hb
      have X := Lib.hid (X.out.below hb)
      have O := Lib.hid (O.out.below hb)
      have B := Lib.hid (bup B.out hb)
      clear hb CX CO qX0 qX1 qX2 qX3 qO0 qO1 qO2 qO3
      go_wp2_with fail
      go_roundw
      case rel => exact ⟨i + 1, by omega, by go_num, B, X, O⟩
      case measure => simp [intOf]; omega
    have d2 : decide ((i : Int) < (o : Int) + (d.size : Int)) = true := decide_eq_true h2
    rw [decide_eq_true (hh.2 (.inr (by omega)))] at CO
    clear hh hx
    go_upto_region 11 with fail
    refine up_region wr (Below.refl _ _) (by kernel_rfl) (by kernel_rfl) ?_
    repeat (go_big_quiet_step ((first | (go_at_call 26; first | (with_reducible exact CO.out _) | (with_reducible exact CX.out _)))))
    refine wpQuiet_nil ?_
    refine up_out ?_
    intro w8 hb
    have X := Lib.hid (X.out.below hb)
    have O := Lib.hid (O.out.below hb)
    have B := Lib.hid (bup B.out hb)
    clear hb CX CO qX0 qX1 qX2 qX3 qO0 qO1 qO2 qO3
    go_wp2_with fail
    go_roundw
    case rel => exact ⟨i + 1, by omega, by go_num, B, X, O⟩
    case measure => simp [intOf]; omega
end Go.Proofs.Ytdhdomnhgcejhaa
