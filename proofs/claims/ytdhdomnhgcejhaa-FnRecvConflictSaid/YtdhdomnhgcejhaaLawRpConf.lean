/- The law FnRecvConflict: the walk.  -/
import Derived.Test.YtdhdomnhgcejhaaLawRv
import Derived.Deep.CutBlock
import Derived.BigQuiet
import Derived.Deep.Quiet
import Derived.Deep.QuietTactic
import Derived.Deep.Draws
namespace Go.Proofs.Ytdhdomnhgcejhaa
open Go.RowKit
set_option linter.unusedVariables false
set_option linter.unusedSimpArgs false

theorem conv_one (W : World) (g : Nat) (z : Int) (h : W.cell? ⟨g, 0, none⟩ = some (.int .u8 z)) : (convert 22 9 (.slice (some ⟨g, 0, none⟩) 1 1)).run Try.prog W = .ok (.string (strOfNums [z])) W := by
  refine run_convert_bytes_arg (P := Try.prog) W 22 5 Try.underlying22 Try.underlying5 g 0 1 1 [z] rfl ?_ 9 Try.underlying9
  intro i hi
  have : i = 0 := by omega
  subst this
  simpa using h
theorem xor_fin : ((List.range 256).all fun n => decide (0 ≤ bits BinOp.xor IntKind.u8 (n : Int) 1 ∧ bits BinOp.xor IntKind.u8 (n : Int) 1 ≤ 255 ∧ bits BinOp.xor IntKind.u8 (n : Int) 1 ≠ (n : Int))) = true := by decide +kernel
theorem xor_one (n : Nat) (h : n < 256) : 0 ≤ bits BinOp.xor IntKind.u8 (n : Int) 1 ∧ bits BinOp.xor IntKind.u8 (n : Int) 1 ≤ 255 ∧ bits BinOp.xor IntKind.u8 (n : Int) 1 ≠ (n : Int) :=
  of_decide_eq_true (List.all_eq_true.1 xor_fin n (List.mem_range.2 h))
set_option maxRecDepth 100000 in
set_option maxHeartbeats 8000000 in
theorem rpconf_walk (a : Option Addr) (len cap : Nat) (zs : List Int) (a' : Option Addr) (len' cap' : Nat) (zs' : List Int) (w : World) (h : IsRow .u8 w a len cap zs) (h' : IsRow .u8 w a' len' cap' zs') :
    Calls Try.prog 10 #[.slice a len cap, .slice a' len' cap'] w fun e w' => e = .returned (.bool true) ∧ Below w.heap.size w w' := by
  have H := Lib.hid h
  have H' := Lib.hid h'
  clear h h'
  by_cases hl : 1048576 < len
  · go_enter Try.func10, Try.ntmps10
    go_wp2
    go_ret
    exact ⟨rfl, Below.refl _ _⟩
  by_cases hl' : 1048576 < len'
  · go_enter Try.func10, Try.ntmps10
    go_wp2
    go_ret
    exact ⟨rfl, Below.refl _ _⟩
  go_enter Try.func10, Try.ntmps10
  go_wp2_with fail
  refine (drawRp_any a len cap zs w H.out).mono ?_
  rintro e w1 ⟨rd, fi, li, v, l, off, d, fin, rfl, hb1, ho1, hn1, hbd, hoff, hd13⟩
  have HV1 := Lib.hid ho1
  have HN1 := Lib.hid hn1
  have HS := Lib.hid hbd.szd
  have HBD := Lib.hid hbd
  obtain ⟨va, vc, rfl⟩ : ∃ a c, v = .slice a l.length c := by obtain ⟨g, c, e, _⟩ := ho1.sl hn1; exact ⟨_, c, e⟩
  obtain ⟨rd', l', fi', li', c, hpv⟩ := PutV.ex rd l fi li off d fin
  have HP := Lib.hid hpv
  have HS' := Lib.hid (hpv.szd hbd.szd)
  have hll : l.length ≤ 1000 ∧ l'.length ≤ 1000 := ⟨HS.out.1, HS'.out.1⟩
  have B := Lib.hid hb1
  have BX := Lib.hid (below_al w1 (.cells #[.int .i64 rd, .slice va l.length vc, .int .i64 fi, .int .i64 li] 30))
  have B := Lib.hid (bup B.out BX.out)
  have X := Lib.hid (Sv.new (rd := rd) (fi := fi) (li := li) ho1.n)
  have HV := Lib.hid (HV1.out.below BX.out)
  clear hb1 ho1 hn1 hbd hpv
  have xc0 := X.out.f 0
  have xc1 := X.out.f 1
  have xc2 := X.out.f 2
  have xc3 := X.out.f 3
  go_wp2_with fail
  generalize w1.alloc (.cells #[.int .i64 rd, .slice va l.length vc, .int .i64 fi, .int .i64 li] 30) = WX at *
  generalize w1.heap.size = bX at *
  refine (iput_got HP.out X.out.p HS.out (by omega)).mono ?_
  rintro e w2 ⟨vo, rfl, hb2, ho2⟩
  have HV := Lib.hid (HV.out.below hb2)
  clear xc0 xc1 xc2 xc3
  obtain ⟨voa, voc, rfl⟩ : ∃ a c, vo = .slice a l'.length c := by obtain ⟨a, c, e, _⟩ := ho2.n; exact ⟨a, c, e⟩
  have BO := Lib.hid (bup hb2 (below_al w2 (.cells #[.int .i64 rd', .slice voa l'.length voc, .int .i64 fi', .int .i64 li'] 30)))
  have X := Lib.hid (X.out.below BO.out)
  have B := Lib.hid (bup B.out BO.out)
  have O := Lib.hid (Sv.new (rd := rd') (fi := fi') (li := li') ho2.n)
  have HV := Lib.hid (HV.out.below (below_al w2 (.cells #[.int .i64 rd', .slice voa l'.length voc, .int .i64 fi', .int .i64 li'] 30)))
  clear hb2 ho2
  have xc0 := X.out.f 0
  have xc1 := X.out.f 1
  have xc2 := X.out.f 2
  have xc3 := X.out.f 3
  go_wp2_with fail
  generalize w2.alloc (.cells #[.int .i64 rd', .slice voa l'.length voc, .int .i64 fi', .int .i64 li'] 30) = WO at *
  generalize w2.heap.size = bO at *
  refine (sput_got HP.out HV.out HN1.out HS.out (by omega)).mono ?_
  rintro e w3 ⟨vn, rfl, hb3, ho3⟩
  clear xc0 xc1 xc2 xc3
  obtain ⟨vna, vnc, rfl⟩ : ∃ a c, vn = .slice a l'.length c := by obtain ⟨a, c, e, _⟩ := ho3.n; exact ⟨a, c, e⟩
  have BN := Lib.hid (bup hb3 (below_al w3 (.cells #[.int .i64 rd', .slice vna l'.length vnc, .int .i64 fi', .int .i64 li'] 30)))
  have X := Lib.hid (X.out.below BN.out)
  have O := Lib.hid (O.out.below BN.out)
  have B := Lib.hid (bup B.out BN.out)
  have N := Lib.hid (Sv.new (rd := rd') (fi := fi') (li := li') ho3.n)
  clear hb3 ho3 HV HN1 HV1
  have hcc : (c != c) = false := by simp
  have hce : (c == c) = true := by simp
  have oc0 := O.out.f 0
  have oc1 := O.out.f 1
  have oc2 := O.out.f 2
  have oc3 := O.out.f 3
  have nc0 := N.out.f 0
  have nc1 := N.out.f 1
  have nc2 := N.out.f 2
  have nc3 := N.out.f 3
  go_wp2_with fail
  generalize w3.alloc (.cells #[.int .i64 rd', .slice vna l'.length vnc, .int .i64 fi', .int .i64 li'] 30) = WN at *
  generalize w3.heap.size = bN at *
  refine (samerv_any rd' fi' li' (.slice voa l'.length voc) (.slice vna l'.length vnc) l' _ O.out.p N.out.p (by omega)).mono ?_
  rintro e w4 ⟨rfl, hb⟩
  have Uw4 := Lib.hid hb
  clear hb
  have X := Lib.hid (X.out.below Uw4.out)
  have O := Lib.hid (O.out.below Uw4.out)
  have N := Lib.hid (N.out.below Uw4.out)
  have B := Lib.hid (bup B.out Uw4.out)
  clear oc0 oc1 oc2 oc3
  clear nc0 nc1 nc2 nc3
  by_cases h0 : c = 0
  case neg =>
    have k0 : (c != 0) = true := by rw [bne_iff_ne]; exact h0
    clear h0
    have oc0 := O.out.f 0
    have oc1 := O.out.f 1
    have oc2 := O.out.f 2
    have oc3 := O.out.f 3
    have nc0 := N.out.f 0
    have nc1 := N.out.f 1
    have nc2 := N.out.f 2
    have nc3 := N.out.f 3
    go_wp2_with fail
    refine (samerv_any rd' fi' li' (.slice voa l'.length voc) (.slice vna l'.length vnc) l' _ O.out.p N.out.p (by omega)).mono ?_
    rintro e w5 ⟨rfl, hb⟩
    have B := Lib.hid (bup B.out hb)
    clear hb
    go_wp2_with fail
    go_ret
    exact ⟨rfl, B.out⟩
  by_cases hdz : d.toList = []
  case pos =>
    have k0 : (c != 0) = false := by rw [h0]; rfl
    clear h0
    have oc0 := O.out.f 0
    have oc1 := O.out.f 1
    have oc2 := O.out.f 2
    have oc3 := O.out.f 3
    have nc0 := N.out.f 0
    have nc1 := N.out.f 1
    have nc2 := N.out.f 2
    have nc3 := N.out.f 3
    go_wp2_with fail
    refine (samerv_any rd' fi' li' (.slice voa l'.length voc) (.slice vna l'.length vnc) l' _ O.out.p N.out.p (by omega)).mono ?_
    rintro e w5 ⟨rfl, hb⟩
    have B := Lib.hid (bup B.out hb)
    clear hb
    go_wp2_with fail
    go_ret
    exact ⟨rfl, B.out⟩
  have k0 : (c != 0) = false := by rw [h0]; rfl
  have HC := Lib.hid h0
  have hde0 : d.toList.isEmpty = false := by rw [Bool.eq_false_iff]; intro e; exact hdz (List.isEmpty_iff.1 e)
  have hdp : 0 < d.size := by rcases Nat.eq_zero_or_pos d.size with q | q; exact absurd (toList_nil q) hdz; exact q
  clear h0
  obtain ⟨k, hk⟩ : ∃ k : Nat, (len' : Int) % (d.size : Int) = (k : Int) := ⟨((len' : Int) % (d.size : Int)).toNat, by have := Int.emod_nonneg (len' : Int) (show (d.size : Int) ≠ 0 by omega); omega⟩
  have hk2 : (len' : Int).tmod (d.size : Int) = (k : Int) := by rw [← hk]; exact Int.tmod_eq_emod_of_nonneg (by omega)
  have hkd : k < d.size := by have := Int.emod_lt_of_pos (len' : Int) (show 0 < (d.size : Int) by omega); omega
  have hkd2 : (k : Int) < (d.size : Int) := by omega
  have hd1 : ¬ (d.size : Int) = 0 := by omega
  have hd2 : ¬ d.size = 0 := by omega
  have hwk : IntKind.i64.wrap (off + (k : Int)) = off + (k : Int) := IntWalk.i64_in _ (by omega)
  obtain ⟨z, hz⟩ : ∃ z, bits BinOp.xor IntKind.u8 (((d[k]'hkd).toNat : Nat) : Int) 1 = z := ⟨_, rfl⟩
  have hzz := xor_one (d[k]'hkd).toNat (d[k]'hkd).toNat_lt
  rw [hz] at hzz
  obtain ⟨e, he⟩ : ∃ e, strOfNums [z] = e := ⟨_, rfl⟩
  have hes : e.size = 1 := by rw [← he]; rfl
  have hed : dat e 0 = z := by rw [← he]; exact dat_num hzz.1 hzz.2.1
  have HE : Hid (e.size ≤ 1000000) := Lib.hid (by rw [← he]; show 1 ≤ 1000000; omega)
  obtain ⟨rz, lz, fz, zz, cz, hpz⟩ := PutV.ex rd' l' fi' li' (off + (k : Int)) e false
  have HPZ := Lib.hid hpz
  have HSZ := Lib.hid (hpz.szd HS'.out)
  have hlz := HSZ.out.1
  obtain ⟨⟨hv, hoo, hdd⟩, hrd, hli, hcp, hput, _⟩ := HP.out.yes (by rw [HC.out]; decide)
  have hput := hput HC.out
  have HR : Hid (¬ off + (k : Int) < rd' → cz = 3) := Lib.hid (fun hlt => by
    have hc0 : pcode rd l fi li off.toNat d fin = 0 := by rw [← hcp]; exact HC.out
    have hv' := put_ok hv hc0 hput
    obtain ⟨c1, _, _⟩ := pcode_zero.1 hc0
    have hli30 := hv.1
    have hon : (off + (k : Int)).toNat = off.toNat + k := by omega
    have kk := hpz
    unfold PutV at kk
    rw [hrd, hli] at kk
    rw [if_pos ⟨hv', by omega, by omega⟩] at kk
    rw [kk.2.2.1, hon]
    exact put_conflict hv hc0 hput hkd hes (by rw [hed, dat_get d hkd]; exact hzz.2.2) (by rw [hrd] at hlt; omega))
  clear hv hoo hdd hrd hli hcp hput hpz hed hzz
  have cv1 := conv_one ((w4.alloc (.cells #[.int .u8 z] 5)).drew) w4.heap.size z (by show (w4.alloc (.cells #[.int .u8 z] 5)).cell? _ = _; rw [World.cell?_alloc_mark]; rfl)
  rw [he] at cv1
  have cv2 := conv_one (((w4.alloc (.cells #[.int .u8 z] 5)).alloc (.cells #[.int .i64 0, .slice none 0 0, .int .i64 0, .int .i64 0] 30)).drew) w4.heap.size z ((((Below.refl _ _).alloc (Nat.le_refl _) (.cells #[.int .i64 0, .slice none 0 0, .int .i64 0, .int .i64 0] 30) : Below (w4.alloc (.cells #[.int .u8 z] 5)).heap.size (w4.alloc (.cells #[.int .u8 z] 5)) _).cell (p := ⟨w4.heap.size, 0, none⟩) (by show w4.heap.size < (w4.alloc (.cells #[.int .u8 z] 5)).heap.size; simp)).trans (by rw [World.cell?_alloc_mark]; rfl))
  rw [he] at cv2
  have cv3 := conv_one (((w4.alloc (.cells #[.int .i64 0, .slice none 0 0, .int .i64 0, .int .i64 0] 30)).alloc (.cells #[.int .u8 z] 5)).drew) (w4.heap.size + 1) z (by show ((w4.alloc (.cells #[.int .i64 0, .slice none 0 0, .int .i64 0, .int .i64 0] 30)).alloc (.cells #[.int .u8 z] 5)).cell? _ = _; rw [show w4.heap.size + 1 = (w4.alloc (.cells #[.int .i64 0, .slice none 0 0, .int .i64 0, .int .i64 0] 30)).heap.size by simp, World.cell?_alloc_mark]; rfl)
  rw [he] at cv3
  clear he hes
  have KP := Lib.hid (fun W (hW : Below w4.heap.size w4 W) => iput_got (w := W) HPZ.out (O.out.p.below hW) HS'.out HE.out)
  go_upto_region 9 with fail
  have K : ∀ W, Below w4.heap.size w4 W → (fun W => W.cell? ⟨bO, 0, none⟩ = some (.int .i64 rd') ∧ W.cell? ⟨bO, 1, none⟩ = some (.slice voa l'.length voc) ∧ W.cell? ⟨bO, 2, none⟩ = some (.int .i64 fi') ∧ W.cell? ⟨bO, 3, none⟩ = some (.int .i64 li')) W := fun W hW => by have h := O.out.below hW; exact ⟨h.f 0, h.f 1, h.f 2, h.f 3⟩
  have HK := Lib.hid K
  clear K
  have kz := HK.out w4.drew (Below.refl _ _).drew
  have kza := HK.out (w4.alloc (.cells #[.int .i64 0, .slice none 0 0, .int .i64 0, .int .i64 0] 30)).drew (below_al w4 _).drew
  have kH := HK.out ((w4.alloc (.cells #[.int .u8 z] 5)).drew) (below_al w4 _).drew
  have B2 : Hid (Below w4.heap.size w4 (((w4.alloc (.cells #[.int .u8 z] 5)).alloc (.cells #[.int .i64 0, .slice none 0 0, .int .i64 0, .int .i64 0] 30)).drew)) := Lib.hid (bup (below_al w4 _) (below_al _ _)).drew
  have B3 : Hid (Below w4.heap.size w4 (((w4.alloc (.cells #[.int .i64 0, .slice none 0 0, .int .i64 0, .int .i64 0] 30)).alloc (.cells #[.int .u8 z] 5)).drew)) := Lib.hid (bup (below_al w4 _) (below_al _ _)).drew
  have B1 : Hid (Below w4.heap.size w4 ((w4.alloc (.cells #[.int .u8 z] 5)).drew)) := Lib.hid (below_al w4 _).drew
  have k2w := HK.out _ B2.out
  have k3w := HK.out _ B3.out
  simp only at kz kza kH k2w k3w
  have F2 : Hid (Frm (((w4.alloc (.cells #[.int .u8 z] 5)).alloc (.cells #[.int .i64 0, .slice none 0 0, .int .i64 0, .int .i64 0] 30)).drew) (w4.heap.size + 1) [.int .i64 0, .slice none 0 0, .int .i64 0, .int .i64 0] ∧ Thaw (((w4.alloc (.cells #[.int .u8 z] 5)).alloc (.cells #[.int .i64 0, .slice none 0 0, .int .i64 0, .int .i64 0] 30)).drew) (w4.heap.size + 1)) := Lib.hid ⟨by intro i; simp, by intro i; simp⟩
  have F3 : Hid (Frm (((w4.alloc (.cells #[.int .i64 0, .slice none 0 0, .int .i64 0, .int .i64 0] 30)).alloc (.cells #[.int .u8 z] 5)).drew) w4.heap.size [.int .i64 0, .slice none 0 0, .int .i64 0, .int .i64 0] ∧ Thaw (((w4.alloc (.cells #[.int .i64 0, .slice none 0 0, .int .i64 0, .int .i64 0] 30)).alloc (.cells #[.int .u8 z] 5)).drew) w4.heap.size) := Lib.hid ⟨(Frm.new w4 30 [.int .i64 0, .slice none 0 0, .int .i64 0, .int .i64 0]).below (((Below.refl (w4.heap.size + 1) (w4.alloc (.cells #[.int .i64 0, .slice none 0 0, .int .i64 0, .int .i64 0] 30))).alloc (by simp) (.cells #[.int .u8 z] 5)).drew) (by omega), (Thaw.new w4 30 [.int .i64 0, .slice none 0 0, .int .i64 0, .int .i64 0]).below (((Below.refl (w4.heap.size + 1) (w4.alloc (.cells #[.int .i64 0, .slice none 0 0, .int .i64 0, .int .i64 0] 30))).alloc (by simp) (.cells #[.int .u8 z] 5)).drew) (by omega)⟩
  obtain ⟨ka0, ka1, ka2, ka3⟩ := kz
  obtain ⟨kb0, kb1, kb2, kb3⟩ := kza
  obtain ⟨kc0, kc1, kc2, kc3⟩ := kH
  obtain ⟨kd0, kd1, kd2, kd3⟩ := k2w
  obtain ⟨ke0, ke1, ke2, ke3⟩ := k3w
  go_region_law ((first
    | (go_simp; go_at_call 19; (with_reducible refine (KP.out ((w4.alloc (.cells #[.int .u8 z] 5)).drew) B1.out).mono ?_); rintro ee w5 ⟨vz, rfl, hb5, ho5⟩; obtain ⟨vza, vzc, rfl⟩ : ∃ a c, vz = .slice a lz.length c := (by obtain ⟨a, c, q, _⟩ := ho5.n; exact ⟨a, c, q⟩); have B5 := Lib.hid (bup B1.out hb5); have k5 := HK.out w5 B5.out; obtain ⟨kf0, kf1, kf2, kf3⟩ := k5; have k5z := HK.out (w5.alloc (.cells #[.int .i64 0, .slice none 0 0, .int .i64 0, .int .i64 0] 30)) (bup B5.out (below_al w5 _)); have BF := Lib.hid (bup B5.out (below_al w5 (.cells #[.int .i64 rz, .slice vza lz.length vzc, .int .i64 fz, .int .i64 zz] 30))); have kf := HK.out _ BF.out; simp only at kf k5z)
    | (go_simp; go_at_call 19; (with_reducible refine (KP.out (((w4.alloc (.cells #[.int .u8 z] 5)).alloc (.cells #[.int .i64 0, .slice none 0 0, .int .i64 0, .int .i64 0] 30)).drew) B2.out).mono ?_); rintro ee w5 ⟨vz, rfl, hb5, ho5⟩; obtain ⟨vza, vzc, rfl⟩ : ∃ a c, vz = .slice a lz.length c := (by obtain ⟨a, c, q, _⟩ := ho5.n; exact ⟨a, c, q⟩); have B5 := Lib.hid (bup B2.out hb5); have k5 := HK.out w5 B5.out; obtain ⟨kf0, kf1, kf2, kf3⟩ := k5; have FZ := F2.out.1.below hb5 (by first | (simp; done) | (simp; omega)); have TZ := F2.out.2.below hb5 (by first | (simp; done) | (simp; omega)); have z0 := FZ 0; have z1 := FZ 1; have z2 := FZ 2; have z3 := FZ 3; have t0 := TZ 0; have t1 := TZ 1; have t2 := TZ 2; have t3 := TZ 3; clear FZ TZ; have BF : Hid (Below w4.heap.size w4 ((((w5.setCell ⟨w4.heap.size + 1, 0, none⟩ (.int .i64 rz)).setCell ⟨w4.heap.size + 1, 1, none⟩ (.slice vza lz.length vzc)).setCell ⟨w4.heap.size + 1, 2, none⟩ (.int .i64 fz)).setCell ⟨w4.heap.size + 1, 3, none⟩ (.int .i64 zz))) := Lib.hid (Below.setCell (Below.setCell (Below.setCell (Below.setCell B5.out (p := ⟨w4.heap.size + 1, 0, none⟩) (by show _ ≤ w4.heap.size + 1; omega) _) (p := ⟨w4.heap.size + 1, 1, none⟩) (by show _ ≤ w4.heap.size + 1; omega) _) (p := ⟨w4.heap.size + 1, 2, none⟩) (by show _ ≤ w4.heap.size + 1; omega) _) (p := ⟨w4.heap.size + 1, 3, none⟩) (by show _ ≤ w4.heap.size + 1; omega) _); have kf := HK.out _ BF.out; simp only at kf)
    | (go_simp; go_at_call 19; (with_reducible refine (KP.out (((w4.alloc (.cells #[.int .i64 0, .slice none 0 0, .int .i64 0, .int .i64 0] 30)).alloc (.cells #[.int .u8 z] 5)).drew) B3.out).mono ?_); rintro ee w5 ⟨vz, rfl, hb5, ho5⟩; obtain ⟨vza, vzc, rfl⟩ : ∃ a c, vz = .slice a lz.length c := (by obtain ⟨a, c, q, _⟩ := ho5.n; exact ⟨a, c, q⟩); have B5 := Lib.hid (bup B3.out hb5); have k5 := HK.out w5 B5.out; obtain ⟨kf0, kf1, kf2, kf3⟩ := k5; have FZ := F3.out.1.below hb5 (by first | (simp; done) | (simp; omega)); have TZ := F3.out.2.below hb5 (by first | (simp; done) | (simp; omega)); have z0 := FZ 0; have z1 := FZ 1; have z2 := FZ 2; have z3 := FZ 3; have t0 := TZ 0; have t1 := TZ 1; have t2 := TZ 2; have t3 := TZ 3; clear FZ TZ; have BF : Hid (Below w4.heap.size w4 ((((w5.setCell ⟨w4.heap.size, 0, none⟩ (.int .i64 rz)).setCell ⟨w4.heap.size, 1, none⟩ (.slice vza lz.length vzc)).setCell ⟨w4.heap.size, 2, none⟩ (.int .i64 fz)).setCell ⟨w4.heap.size, 3, none⟩ (.int .i64 zz))) := Lib.hid (Below.setCell (Below.setCell (Below.setCell (Below.setCell B5.out (p := ⟨w4.heap.size, 0, none⟩) (by show _ ≤ w4.heap.size; omega) _) (p := ⟨w4.heap.size, 1, none⟩) (by show _ ≤ w4.heap.size; omega) _) (p := ⟨w4.heap.size, 2, none⟩) (by show _ ≤ w4.heap.size; omega) _) (p := ⟨w4.heap.size, 3, none⟩) (by show _ ≤ w4.heap.size; omega) _); have kf := HK.out _ BF.out; simp only at kf)))
  all_goals
    have B := Lib.hid (bup B.out BF.out)
    have kf0 := kf.1
    by_cases hlt : off + (k : Int) < rd'
    case pos =>
      have dl : decide (off + (k : Int) < rd') = true := decide_eq_true hlt
      go_wp2_with fail
      go_ret
      exact ⟨rfl, B.out⟩
    have dl : decide (off + (k : Int) < rd') = false := decide_eq_false hlt
    have hc3 : (cz == 3) = true := by rw [beq_iff_eq]; exact HR.out (by omega)
    go_wp2_with fail
    go_ret
    exact ⟨rfl, B.out⟩
end Go.Proofs.Ytdhdomnhgcejhaa
