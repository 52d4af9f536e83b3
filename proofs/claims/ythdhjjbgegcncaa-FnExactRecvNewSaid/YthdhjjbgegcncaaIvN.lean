/- Chapter 31, the program: RecvRead. -/
import Derived.Test.YthdhjjbgegcncaaIvM
namespace Go.Proofs.Ythdhjjbgegcncaa
open Go.RowKit
set_option linter.unusedVariables false
set_option linter.unusedSimpArgs false

/-- What is read at once: the first piece's bytes. -/
theorem ba_nil {s : ByteArray} (h : s.size = 0) : s = ⟨#[]⟩ := by
  obtain ⟨⟨sl⟩⟩ := s
  have : sl = [] := by
    have h2 : (ByteArray.mk ⟨sl⟩).size = 0 := h
    simpa [ByteArray.size] using h2
  rw [this]
theorem red_read {rd : Int} {l : List Qc} {k : Nat} (hk : pok rd l) (h0 : 0 ≤ rd) (hle : k ≤ rdy rd l) : ∃ s, Red rd l k (lcut l (rd + (k : Int))) s ∧ (0 < rdy rd l → 0 < l.length ∧ (l.getD 0 pc0).2.extract 0 k = s ∧ k ≤ (l.getD 0 pc0).2.size) := by
  cases l with
  | nil =>
    have hk0 : k = 0 := by simp [rdy] at hle; exact hle
    subst hk0
    exact ⟨⟨#[]⟩, ⟨lcut_isp hk (by omega), rfl, fun i hi => by omega⟩, fun h => by simp [rdy] at h⟩
  | cons p t =>
    have hp := hk.1
    by_cases hx : rd < p.1
    · have e : rdy rd (p :: t) = 0 := if_pos hx
      have hk0 : k = 0 := by omega
      subst hk0
      exact ⟨⟨#[]⟩, ⟨lcut_isp hk (by omega), rfl, fun i hi => by omega⟩, fun h => by omega⟩
    · have e : rdy rd (p :: t) = p.2.size := if_neg hx
      rw [e] at hle
      refine ⟨p.2.extract 0 k, ⟨lcut_isp hk (by omega), by rw [ByteArray.size_extract]; omega, fun i hi => ?_⟩, fun _ => ⟨by simp, rfl, hle⟩⟩
      rw [dat_ext' hle (by omega), pat_byt, if_pos ⟨by omega, by omega⟩]
      unfold byt
      congr 1
      omega
set_option maxRecDepth 100000 in
set_option maxHeartbeats 8000000 in
theorem irecvread_any (v : Value) (l : List Pc) (rd fi li n : Int) (w : World) (h : Pcn w v l) (hl : l.length ≤ 2000000) (hsz : ∀ p ∈ l, p.1 ≤ 9223372036854775807 ∧ p.2.size ≤ 2000000) :
    Calls Try.prog 24 #[.agg #[.int .i64 rd, v, .int .i64 fi, .int .i64 li], .int .i64 n] w (RReadAns w rd l fi li n) := by
  have G0 := Lib.hid (Gw.start w rd v fi li)
  have CV := Lib.hid (irvval_any v l rd fi li _ (h.below G0.out.bel) hl hsz)
  have KR := Lib.hid (fun W (hW : Below w.heap.size w W) => irecvready_any v l rd fi li W (h.below hW) hl hsz)
  have CU := Lib.hid (fun W => upTo_any n 30 W)
  have H := Lib.hid h
  obtain ⟨a, c, rfl, _⟩ := h
  clear hsz
  by_cases hv : rvok rd l fi li
  case neg =>
    rw [decide_eq_false hv] at CV
    refine rread_no (fun k => hv k.1) ?_
    clear hv CU KR
    go_enter Try.func24, Try.ntmps24
    go_wp2_with fail
    generalize (w.alloc (.cells #[.int .i64 rd, .slice a l.length c, .int .i64 fi, .int .i64 li] 24)).alloc (.cells #[.int .i64 0, .slice none 0 0, .int .i64 0, .int .i64 0] 24) = W0 at *
    refine CV.out.mono ?_
    rintro e w1 ⟨rfl, hb1⟩
    have G1 := Lib.hid (G0.out.below hb1)
    have FIN := Lib.hid (G1.out.fin (OwnPc.nil w1 (w.heap.size + 2)) (by omega) (.int .i64 0) (.int .i64 0) (.int .i64 0))
    have r0 := G1.out.r 0
    have r1 := G1.out.r 1
    have r2 := G1.out.r 2
    have r3 := G1.out.r 3
    have t0 := G1.out.rt 0
    have t1 := G1.out.rt 1
    have t2 := G1.out.rt 2
    have t3 := G1.out.rt 3
    clear hb1
    go_wp2_with fail
    obtain ⟨BF, FF, _⟩ := FIN.out
    have f0 := FF 0
    have f1 := FF 1
    have f2 := FF 2
    have f3 := FF 3
    refine bodyPost_ret (v := .tuple #[.agg #[.int .i64 0, .slice none 0 0, .int .i64 0, .int .i64 0], .string ⟨#[]⟩]) ?hr rfl ?_
    case hr => rw [results_cell_tmp rfl]; go_simp
    exact ⟨rfl, BF⟩
  rw [decide_eq_true hv] at CV
  by_cases hn : 0 ≤ n ∧ n ≤ 30
  case neg =>
    rw [decide_eq_false hn] at CU
    refine rread_no (fun k => hn k.2) ?_
    clear hv KR
    go_enter Try.func24, Try.ntmps24
    go_wp2_with fail
    generalize (w.alloc (.cells #[.int .i64 rd, .slice a l.length c, .int .i64 fi, .int .i64 li] 24)).alloc (.cells #[.int .i64 0, .slice none 0 0, .int .i64 0, .int .i64 0] 24) = W0 at *
    refine CV.out.mono ?_
    rintro e w1 ⟨rfl, hb1⟩
    have G1 := Lib.hid (G0.out.below hb1)
    have FIN := Lib.hid (G1.out.fin (OwnPc.nil w1 (w.heap.size + 2)) (by omega) (.int .i64 0) (.int .i64 0) (.int .i64 0))
    have r0 := G1.out.r 0
    have r1 := G1.out.r 1
    have r2 := G1.out.r 2
    have r3 := G1.out.r 3
    have t0 := G1.out.rt 0
    have t1 := G1.out.rt 1
    have t2 := G1.out.rt 2
    have t3 := G1.out.rt 3
    clear hb1
    go_wp2_with fail
    refine (CU.out _).mono ?_
    rintro e w9 ⟨rfl, rfl⟩
    go_wp2_with fail
    obtain ⟨BF, FF, _⟩ := FIN.out
    have f0 := FF 0
    have f1 := FF 1
    have f2 := FF 2
    have f3 := FF 3
    refine bodyPost_ret (v := .tuple #[.agg #[.int .i64 0, .slice none 0 0, .int .i64 0, .int .i64 0], .string ⟨#[]⟩]) ?hr rfl ?_
    case hr => rw [results_cell_tmp rfl]; go_simp
    exact ⟨rfl, BF⟩
  rw [decide_eq_true hn] at CU
  obtain ⟨hib, hl30⟩ := rvok_sz hv
  have hrd : 0 ≤ rd ∧ rd ≤ 30 := by have := hv.1; have := hv.2.1; omega
  obtain ⟨r, hr⟩ : ∃ r, rdy rd l = r := ⟨_, rfl⟩
  have HRV : Hid (rdyv rd l fi li = (r : Int)) := Lib.hid (by rw [← hr]; exact if_pos hv)
  rw [HRV.out] at KR
  have hr30 : r ≤ 30 := by
    rw [← hr]
    cases l with
    | nil => simp [rdy]
    | cons p t =>
      have := hib p (by simp)
      unfold IB' at this
      simp only [rdy]
      split <;> omega
  obtain ⟨k, hk⟩ : ∃ k, min n.toNat r = k := ⟨_, rfl⟩
  obtain ⟨s, hred, hs⟩ := red_read (k := k) hv.2.2.1 hv.2.1.1 (by rw [hr]; omega)
  have HRED := Lib.hid hred
  have hss : s.size = k := hred.sz
  refine rread_yes ⟨hv, hn⟩ ?_
  rw [hr, hk]
  have KW := Lib.hid (fun W x (hW : Below w.heap.size w W) => waiting_any (.slice a l.length c) l x fi li W (H.out.below hW) (by omega) (IB'.isz hib))
  have KF := Lib.hid (fun W B s (hs : Ivl W B s l) => lfrom_any B s l (rd + (k : Int)) W hs (by omega) (IB'.isz hib) (by omega))
  have hlc : (lcut l (rd + (k : Int))).length ≤ 1000 := by
    unfold lcut
    rw [List.length_map]
    have := List.length_filter_le (fun p : Qc => decide (rd + (k : Int) < p.1 + (p.2.size : Int))) l
    omega
  obtain ⟨l', hl'⟩ : ∃ l', lcut l (rd + (k : Int)) = l' := ⟨_, rfl⟩
  rw [hl'] at KF HRED hlc
  have KX := Lib.hid (fun W x B s (hs : Ivl W B s l') => withw_any B (.slice a l.length c) s l' x fi li W hs (by omega) ⟨_, _, _, rfl⟩)
  rw [hr] at hs
  have KTXT : Hid (0 < r → ∃ g o, a = some ⟨g, o, none⟩ ∧ ∃ d : ByteArray, w.cell? ⟨g, o + 1, none⟩ = some (.string d) ∧ d.extract 0 k = s ∧ k ≤ d.size ∧ 0 < l.length) := Lib.hid (fun hr0 => by
    obtain ⟨hlp, he, hke⟩ := hs hr0
    obtain ⟨_, _, e0, hc0⟩ := H.out
    injection e0 with e1 e2 e3
    obtain ⟨g, o, e4, hc⟩ := hc0 (by rintro rfl; simp at hlp)
    subst e1
    have := (hc 0 hlp).2
    rw [Nat.zero_mul, Nat.add_zero] at this
    exact ⟨g, o, e4, _, this, he, hke, hlp⟩)
  have HS0 : Hid (r = 0 → s = ⟨#[]⟩ ∧ k = 0) := Lib.hid (fun h0 => ⟨ba_nil (by omega), by omega⟩)
  clear hs hl' hib hv HRV hr hred
  by_cases hr0 : 0 < r
  · have d0 : decide ((0 : Int) < (r : Int)) = true := decide_eq_true (by omega)
    have d0' : (0 : Int) < (r : Int) := by omega
    obtain ⟨g, o, rfl, d, hc1, hds, hkd, hlp⟩ := KTXT.out hr0
    have hgw := World.block_lt_of_cell? w _ hc1
    have hmin : min n (r : Int) = (k : Int) := by omega
    have hsz2 : (d.extract 0 k).size = k := by rw [hds]; exact hss
    have hwr : IntKind.i64.wrap (rd + (k : Int)) = rd + (k : Int) := IntWalk.i64_in _ (by omega)
    clear KTXT HS0 hk
    go_enter Try.func24, Try.ntmps24
    go_wp2_with fail
    generalize (w.alloc (.cells #[.int .i64 rd, .slice (some ⟨g, o, none⟩) l.length c, .int .i64 fi, .int .i64 li] 24)).alloc (.cells #[.int .i64 0, .slice none 0 0, .int .i64 0, .int .i64 0] 24) = W0 at *
    refine CV.out.mono ?_
    rintro e w1 ⟨rfl, hb1⟩
    have G1 := Lib.hid (G0.out.below hb1)
    clear hb1
    go_wp2_with fail
    refine (CU.out _).mono ?_
    rintro e w9 ⟨rfl, rfl⟩
    have q0 := G1.out.f 0
    have q1 := G1.out.f 1
    have q2 := G1.out.f 2
    have q3 := G1.out.f 3
    go_wp2_with fail
    refine (KR.out _ G1.out.bel).mono ?_
    rintro e w2 ⟨rfl, hb2⟩
    have G2 := Lib.hid (G1.out.below hb2)
    clear hb2 q0 q1 q2 q3
    have q0 := G2.out.f 0
    have q1 := G2.out.f 1
    have q2 := G2.out.f 2
    have q3 := G2.out.f 3
    have z0 := G2.out.t 0
    have G3 := Lib.hid (G2.out.set0 (rd + (k : Int)))
    have p1 := (G2.out.bel.cell (p := ⟨g, o + 1, none⟩) hgw).trans hc1
    go_upto_region 8 with fail
    generalize w2.setCell ⟨w.heap.size, 0, none⟩ (.int .i64 (rd + (k : Int))) = W3 at *
    clear q0 q1 q2 q3 z0
    have G4 := Lib.hid (G3.out.below (Below.refl _ _).drew)
    have k0 := G4.out.sc
    go_region_held3 (fun W => W.cell? ⟨w.heap.size, 0, none⟩ = some (.int .i64 (rd + (k : Int))) ∧ W.cell? ⟨w.heap.size, 1, none⟩ = some (.slice (some ⟨g, o, none⟩) l.length c) ∧ W.cell? ⟨w.heap.size, 2, none⟩ = some (.int .i64 fi) ∧ W.cell? ⟨w.heap.size, 3, none⟩ = some (.int .i64 li)) (with_reducible first | assumption | exact k0 | exact k1 | exact k2 | exact k3 | exact k4) ((first
      | (go_at_call 39; (with_reducible refine (KW.out _ _ G4.out.bel).mono ?_); rintro e w3 ⟨s3, rfl, hb3, hi3⟩; have G5 := Lib.hid (G4.out.below hb3); have k1 := G5.out.sc; have HI := Lib.hid hi3; clear hi3)
      | (go_at_call 47; (with_reducible refine (KF.out _ _ _ HI.out).mono ?_); rintro e w4 ⟨s4, rfl, hb4, hi4⟩; have G6 := Lib.hid (G5.out.below hb4); have k2 := G6.out.sc; have HJ := Lib.hid hi4; clear hi4)
      | (go_at_call 41; (with_reducible refine (KX.out _ _ _ _ HJ.out).mono ?_); rintro e w5 ⟨u, rfl, hb5, ho5, hn5⟩; have G7 := Lib.hid (G6.out.below hb5); have k3 := G7.out.sc; obtain ⟨g5, c5, rfl, _⟩ := ho5.sl hn5; have k4 := G7.out.sc2 (.int .i64 (rd + (k : Int))) (.slice (some ⟨g5, 0, none⟩) l'.length c5) (.int .i64 fi) (.int .i64 li); have FIN := Lib.hid (G7.out.fin ho5 G6.out.hi (.int .i64 (rd + (k : Int))) (.int .i64 fi) (.int .i64 li)); have r0 := G7.out.r 0; have r1 := G7.out.r 1; have r2 := G7.out.r 2; have r3 := G7.out.r 3; have t0 := G7.out.rt 0; have t1 := G7.out.rt 1; have t2 := G7.out.rt 2; have t3 := G7.out.rt 3; clear ho5 hn5)))
    all_goals
      obtain ⟨BF, FF, OF⟩ := FIN.out
      have f0 := FF 0
      have f1 := FF 1
      have f2 := FF 2
      have f3 := FF 3
      have OF := Lib.hid OF
      clear FF FIN
      go_wp2_with fail
      refine bodyPost_ret (v := .tuple #[.agg #[.int .i64 (rd + (k : Int)), .slice (some ⟨g5, 0, none⟩) l'.length c5, .int .i64 fi, .int .i64 li], .string s]) ?hr rfl ?_
      case hr => rw [results_cell_tmp rfl]; go_simp
      exact ⟨_, _, _, _, rfl, by omega, HRED.out, BF, OF.out, by simp⟩
  · have d0 : decide ((0 : Int) < (r : Int)) = false := decide_eq_false (by omega)
    obtain ⟨rfl, hk0⟩ := HS0.out (by omega)
    have hr00 : r = 0 := by omega
    clear KTXT HS0 hk hss
    subst hk0 hr00
    rw [show rd + ((0 : Nat) : Int) = rd by omega] at KF
    go_enter Try.func24, Try.ntmps24
    go_wp2_with fail
    generalize (w.alloc (.cells #[.int .i64 rd, .slice a l.length c, .int .i64 fi, .int .i64 li] 24)).alloc (.cells #[.int .i64 0, .slice none 0 0, .int .i64 0, .int .i64 0] 24) = W0 at *
    refine CV.out.mono ?_
    rintro e w1 ⟨rfl, hb1⟩
    have G1 := Lib.hid (G0.out.below hb1)
    clear hb1
    go_wp2_with fail
    refine (CU.out _).mono ?_
    rintro e w9 ⟨rfl, rfl⟩
    have q0 := G1.out.f 0
    have q1 := G1.out.f 1
    have q2 := G1.out.f 2
    have q3 := G1.out.f 3
    go_wp2_with fail
    refine (KR.out _ G1.out.bel).mono ?_
    rintro e w2 ⟨rfl, hb2⟩
    have G2 := Lib.hid (G1.out.below hb2)
    clear hb2 q0 q1 q2 q3
    have q0 := G2.out.f 0
    have q1 := G2.out.f 1
    have q2 := G2.out.f 2
    have q3 := G2.out.f 3
    have z0 := G2.out.t 0
    have G3 := Lib.hid (G2.out.set0 rd)
    go_upto_region 8 with fail
    generalize w2.setCell ⟨w.heap.size, 0, none⟩ (.int .i64 rd) = W3 at *
    clear q0 q1 q2 q3 z0
    have G4 := Lib.hid (G3.out.below (Below.refl _ _).drew)
    have k0 := G4.out.sc
    go_region_held3 (fun W => W.cell? ⟨w.heap.size, 0, none⟩ = some (.int .i64 rd) ∧ W.cell? ⟨w.heap.size, 1, none⟩ = some (.slice a l.length c) ∧ W.cell? ⟨w.heap.size, 2, none⟩ = some (.int .i64 fi) ∧ W.cell? ⟨w.heap.size, 3, none⟩ = some (.int .i64 li)) (with_reducible first | assumption | exact k0 | exact k1 | exact k2 | exact k3 | exact k4) ((first
      | (go_at_call 39; (with_reducible refine (KW.out _ _ G4.out.bel).mono ?_); rintro e w3 ⟨s3, rfl, hb3, hi3⟩; have G5 := Lib.hid (G4.out.below hb3); have k1 := G5.out.sc; have HI := Lib.hid hi3; clear hi3)
      | (go_at_call 47; (with_reducible refine (KF.out _ _ _ HI.out).mono ?_); rintro e w4 ⟨s4, rfl, hb4, hi4⟩; have G6 := Lib.hid (G5.out.below hb4); have k2 := G6.out.sc; have HJ := Lib.hid hi4; clear hi4)
      | (go_at_call 41; (with_reducible refine (KX.out _ _ _ _ HJ.out).mono ?_); rintro e w5 ⟨u, rfl, hb5, ho5, hn5⟩; have G7 := Lib.hid (G6.out.below hb5); have k3 := G7.out.sc; obtain ⟨g5, c5, rfl, _⟩ := ho5.sl hn5; have k4 := G7.out.sc2 (.int .i64 rd) (.slice (some ⟨g5, 0, none⟩) l'.length c5) (.int .i64 fi) (.int .i64 li); have FIN := Lib.hid (G7.out.fin ho5 G6.out.hi (.int .i64 rd) (.int .i64 fi) (.int .i64 li)); have r0 := G7.out.r 0; have r1 := G7.out.r 1; have r2 := G7.out.r 2; have r3 := G7.out.r 3; have t0 := G7.out.rt 0; have t1 := G7.out.rt 1; have t2 := G7.out.rt 2; have t3 := G7.out.rt 3; clear ho5 hn5)))
    all_goals
      obtain ⟨BF, FF, OF⟩ := FIN.out
      have f0 := FF 0
      have f1 := FF 1
      have f2 := FF 2
      have f3 := FF 3
      have OF := Lib.hid OF
      clear FF FIN
      go_wp2_with fail
      refine bodyPost_ret (v := .tuple #[.agg #[.int .i64 rd, .slice (some ⟨g5, 0, none⟩) l'.length c5, .int .i64 fi, .int .i64 li], .string ⟨#[]⟩]) ?hr rfl ?_
      case hr => rw [results_cell_tmp rfl]; go_simp
      exact ⟨_, _, _, _, rfl, by omega, HRED.out, BF, OF.out, by simp⟩
end Go.Proofs.Ythdhjjbgegcncaa
