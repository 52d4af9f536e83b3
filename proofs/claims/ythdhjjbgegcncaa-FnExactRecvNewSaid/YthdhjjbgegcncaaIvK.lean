/- Chapter 31, the program: receivedEnd, contradictsFinal, putCode. -/
import Derived.Test.YthdhjjbgegcncaaIvG
import Derived.Test.YthdhjjbgegcncaaIvJ
namespace Go.Proofs.Ythdhjjbgegcncaa
open Go.RowKit
set_option linter.unusedVariables false
set_option linter.unusedSimpArgs false

/-- A piece of a valid stream. -/
def IB' (p : Qc) : Prop := 0 ≤ p.1 ∧ p.1 + (p.2.size : Int) ≤ 30 ∧ 0 < p.2.size
theorem rvok_sz {rd : Int} {l : List Qc} {fi li : Int} (h : rvok rd l fi li) : (∀ p ∈ l, IB' p) ∧ l.length ≤ 30 := ⟨fun p hp => by
  have k := rvok_pc h p hp
  have k2 := pok_lo h.2.2.1 hp
  have := h.2.1
  have := h.1
  unfold IB'
  omega, rvok_len h⟩
set_option maxRecDepth 100000 in
set_option maxHeartbeats 4000000 in
theorem rend_any (v : Value) (l : List Pc) (rd fi li : Int) (w : World) (h : Pcn w v l) (hv : rvok rd l fi li) :
    Calls Try.prog 59 #[.agg #[.int .i64 rd, v, .int .i64 fi, .int .i64 li]] w fun e w' => e = .returned (.int .i64 (pend rd l)) ∧ Below w.heap.size w w' := by
  have H := Lib.hid h
  obtain ⟨hib, hl⟩ := rvok_sz hv
  have HIB := Lib.hid hib
  obtain ⟨a, c, rfl, _⟩ := h
  clear hib hv
  have BB : Hid (Below w.heap.size w (w.alloc (.cells #[.int .i64 rd, .slice a l.length c, .int .i64 fi, .int .i64 li] 24))) := Lib.hid ((Below.refl _ _).alloc (Nat.le_refl _) _)
  by_cases h0 : l.length < 1
  · have h0' : ((l.length : Int) == 0) = true := by rw [beq_iff_eq]; omega
    have HE : Hid (rd = pend rd l) := Lib.hid (by have : l = [] := List.length_eq_zero_iff.1 (by omega); rw [this]; rfl)
    clear h0
    go_enter Try.func59, Try.ntmps59
    go_wp2_with fail
    go_ret
    exact ⟨ret_int HE.out, BB.out⟩
  · have h0' : ((l.length : Int) == 0) = false := by rw [beq_eq_false_iff_ne]; omega
    have hne : l ≠ [] := by rintro rfl; simp at h0
    have HE := Lib.hid (pend_at (rd := rd) (l := l) hne)
    obtain ⟨_, _, e0, hc0⟩ := H.out
    injection e0 with e1 e2 e3
    obtain ⟨g, o, e4, hc⟩ := hc0 hne
    clear hc0
    subst e1 e3 e4
    obtain ⟨q0, q1⟩ := hc (l.length - 1) (by omega)
    have hpk : IB' (l.getD (l.length - 1) pc0) := by
      rw [List.getD_eq_getElem?_getD, List.getElem?_eq_getElem (show l.length - 1 < l.length by omega)]
      exact HIB.out _ (List.getElem_mem _)
    unfold IB' at hpk
    have i1 : IntKind.i64.wrap ((l.length : Int) - 1) = (l.length : Int) - 1 := IntWalk.i64_in _ (by omega)
    have i2 : (0 : Int) ≤ (l.length : Int) - 1 := by omega
    have i3 : ((l.length : Int) - 1).toNat = l.length - 1 := by omega
    have i4 : (l.length : Int) - 1 < (l.length : Int) := by omega
    have hg1 := World.block_lt_of_cell? w _ q0
    have hg2 := World.block_lt_of_cell? w _ q1
    clear hc e2 hne
    generalize (l.getD (l.length - 1) pc0).1 = x at q0 hpk HE
    generalize (l.getD (l.length - 1) pc0).2 = d at q1 hpk HE
    have i5 : IntKind.i64.wrap (x + (d.size : Int)) = x + (d.size : Int) := IntWalk.i64_in _ (by omega)
    go_enter Try.func59, Try.ntmps59
    go_wp2_with fail
    go_ret
    exact ⟨ret_int HE.out, BB.out.alloc BB.out.size _⟩

set_option maxRecDepth 100000 in
set_option maxHeartbeats 4000000 in
theorem contra_any (v : Value) (l : List Pc) (rd fi li en : Int) (fin : Bool) (w : World) (h : Pcn w v l) (hv : rvok rd l fi li) (he : -1000000 ≤ en ∧ en ≤ 1000000) :
    Calls Try.prog 55 #[.agg #[.int .i64 rd, v, .int .i64 fi, .int .i64 li], .int .i64 en, .bool fin] w fun e w' => e = .returned (.bool (decide (pfin rd l fi en fin))) ∧ Below w.heap.size w w' := by
  have BB : Hid (Below w.heap.size w (w.alloc (.cells #[.int .i64 rd, v, .int .i64 fi, .int .i64 li] 24))) := Lib.hid ((Below.refl _ _).alloc (Nat.le_refl _) _)
  have KE := Lib.hid (rend_any v l rd fi li _ (h.below BB.out) hv)
  have hfi : fi = -1 ∨ 0 ≤ fi := by
    obtain ⟨h1, h2, h3, h4, h5⟩ := hv
    have := pend_ge (rd := rd) h3 (Int.le_refl _)
    omega
  obtain ⟨a, c, rfl, _⟩ := h
  clear hv
  cases fin
  · have HQ : Hid (pfin rd l fi en false ↔ 0 ≤ fi ∧ fi < en) := Lib.hid (by unfold pfin; simp)
    clear KE
    by_cases f1 : fi = -1
    · have f1' : (fi != -1) = false := by rw [f1]; rfl
      have HF : Hid (decide (pfin rd l fi en false) = false) := Lib.hid (decide_eq_false fun k => by have := HQ.out.1 k; omega)
      clear f1 hfi
      go_enter Try.func55, Try.ntmps55
      go_wp2_with fail
      go_ret
      exact ⟨ret_bool HF.out.symm, BB.out⟩
    · have f1' : (fi != -1) = true := by rw [bne_iff_ne]; exact f1
      have HF : Hid (decide (fi < en) = decide (pfin rd l fi en false)) := Lib.hid (decide_eq_decide.2 (by rw [HQ.out]; omega))
      clear f1 hfi
      go_enter Try.func55, Try.ntmps55
      go_wp2_with fail
      go_ret
      exact ⟨ret_bool HF.out, BB.out⟩
  · have HQ : Hid (pfin rd l fi en true ↔ (0 ≤ fi ∧ fi ≠ en) ∨ en < pend rd l) := Lib.hid (by unfold pfin; simp)
    obtain ⟨q, hq⟩ : ∃ q, pend rd l = q := ⟨_, rfl⟩
    rw [hq] at HQ KE
    clear hq
    by_cases f1 : fi = -1
    · have f1' : (fi != -1) = false := by rw [f1]; rfl
      have HF : Hid (decide (en < q) = decide (pfin rd l fi en true)) := Lib.hid (decide_eq_decide.2 (by rw [HQ.out]; omega))
      clear f1 hfi
      go_enter Try.func55, Try.ntmps55
      go_wp2_with fail
      refine KE.out.mono ?_
      rintro e w1 ⟨rfl, hb⟩
      have B1 := Lib.hid (BB.out.trans (hb.mono BB.out.size))
      clear hb
      go_wp2_with fail
      go_ret
      exact ⟨ret_bool HF.out, B1.out⟩
    · have f1' : (fi != -1) = true := by rw [bne_iff_ne]; exact f1
      by_cases f2 : en = fi
      · have f2' : (en != fi) = false := by rw [f2]; simp
        have HF : Hid (decide (en < q) = decide (pfin rd l fi en true)) := Lib.hid (decide_eq_decide.2 (by rw [HQ.out]; omega))
        clear f1 hfi f2
        go_enter Try.func55, Try.ntmps55
        go_wp2_with fail
        refine KE.out.mono ?_
        rintro e w1 ⟨rfl, hb⟩
        have B1 := Lib.hid (BB.out.trans (hb.mono BB.out.size))
        clear hb
        go_wp2_with fail
        go_ret
        exact ⟨ret_bool HF.out, B1.out⟩
      · have f2' : (en != fi) = true := by rw [bne_iff_ne]; exact f2
        have HF : Hid (true = decide (pfin rd l fi en true)) := Lib.hid (decide_eq_true (HQ.out.2 (by omega))).symm
        clear f1 hfi f2 KE
        go_enter Try.func55, Try.ntmps55
        go_wp2_with fail
        go_ret
        exact ⟨ret_bool HF.out, BB.out⟩

/-- Where putCode stands: both structs in their boxes. -/
structure Pw (w W : World) (rd : Int) (v : Value) (fi li x : Int) (U : Value) : Prop where
  bel : Below w.heap.size w W
  f : Frm W w.heap.size [.int .i64 rd, v, .int .i64 fi, .int .i64 li]
  q : Frm W (w.heap.size + 1) [.int .i64 x, U]
theorem Pw.below {w W W' : World} {rd fi li x : Int} {v U : Value} (h : Pw w W rd v fi li x U) (hb : Below W.heap.size W W') : Pw w W' rd v fi li x U :=
  ⟨h.bel.trans (hb.mono h.bel.size), h.f.below hb (World.block_lt_of_cell? W _ (h.f 0)), h.q.below hb (World.block_lt_of_cell? W _ (h.q 0))⟩
theorem Pw.start (w : World) (rd : Int) (v : Value) (fi li x : Int) (U : Value) : Pw w ((w.alloc (.cells #[.int .i64 rd, v, .int .i64 fi, .int .i64 li] 24)).alloc (.cells #[.int .i64 x, U] 55)) rd v fi li x U where
  bel := ((Below.refl _ _).alloc (Nat.le_refl _) _).alloc (by simp) _
  f := (Frm.new w 24 [.int .i64 rd, v, .int .i64 fi, .int .i64 li]).below ((Below.refl (w.heap.size + 1) _).alloc (by simp) _) (by omega)
  q := by
    intro i
    simp
theorem Pw.sc {w W : World} {rd fi li x : Int} {v U : Value} (h : Pw w W rd v fi li x U) : W.cell? ⟨w.heap.size, 0, none⟩ = some (.int .i64 rd) ∧ W.cell? ⟨w.heap.size, 1, none⟩ = some v ∧ W.cell? ⟨w.heap.size, 2, none⟩ = some (.int .i64 fi) ∧ W.cell? ⟨w.heap.size, 3, none⟩ = some (.int .i64 li) ∧ W.cell? ⟨w.heap.size + 1, 0, none⟩ = some (.int .i64 x) ∧ W.cell? ⟨w.heap.size + 1, 1, none⟩ = some U := ⟨h.f 0, h.f 1, h.f 2, h.f 3, h.q 0, h.q 1⟩
theorem IB'.isz {l : List Qc} (h : ∀ p ∈ l, IB' p) : ISz l := fun p hp => by
  have := h p hp
  unfold IB' at this
  omega

set_option maxRecDepth 100000 in
set_option maxHeartbeats 8000000 in
theorem putcode_any (v U : Value) (l : List Pc) (rd fi li : Int) (o : Nat) (d : ByteArray) (fin : Bool) (w : World) (h : Pcn w v l) (hu : Byt w U d) (hv : rvok rd l fi li) (ho : o ≤ 30) (hd : d.size ≤ 1000) :
    Calls Try.prog 40 #[.agg #[.int .i64 rd, v, .int .i64 fi, .int .i64 li], .agg #[.int .i64 (o : Int), U], .bool fin] w fun e w' => e = .returned (.int .i64 (pcode rd l fi li o d fin)) ∧ Below w.heap.size w w' := by
  obtain ⟨hib, hl⟩ := rvok_sz hv
  have P0 := Lib.hid (Pw.start w rd v fi li (o : Int) U)
  have HU := Lib.hid hu
  obtain ⟨g1, o1, c1, rfl, hc1⟩ := hu.shape
  have KE := Lib.hid (fun W => iend_any (o : Int) (some ⟨g1, o1, none⟩) d.size c1 W (by omega) (by omega))
  have KC := Lib.hid (fun W (hW : Below w.heap.size w W) => contra_any v l rd fi li ((o : Int) + (d.size : Int)) fin W (h.below hW) hv (by omega))
  have KW := Lib.hid (fun W (hW : Below w.heap.size w W) => waiting_any v l rd fi li W (h.below hW) (by omega) (IB'.isz hib))
  have KA := Lib.hid (fun W (hW : Below w.heap.size w W) B s (hs : Ivl W B s l) => lagree_any B s l (o : Int) _ d W hs (by omega) (IB'.isz hib) (HU.out.below hW) (by omega) (by omega))
  have HAC := Lib.hid (agr_conf (o := o) (d := d) hv.2.2.1)
  obtain ⟨en, hen⟩ : ∃ en, (o : Int) + (d.size : Int) = en := ⟨_, rfl⟩
  have HP : Hid (pcode rd l fi li o d fin = if li < en then 1 else if pfin rd l fi en fin then 2 else if pconf (pat l) o d then 3 else 0) := Lib.hid (by rw [← hen]; rfl)
  rw [hen] at KE KC
  obtain ⟨R, hR⟩ : ∃ R, pcode rd l fi li o d fin = R := ⟨_, rfl⟩
  rw [hR] at HP ⊢
  obtain ⟨a, c, rfl, _⟩ := h
  clear hR hen hu hib hv HU
  generalize (o : Int) = x at *
  go_enter Try.func40, Try.ntmps40
  go_upto_region 1 with fail
  generalize (w.alloc (.cells #[.int .i64 rd, .slice a l.length c, .int .i64 fi, .int .i64 li] 24)).alloc (.cells #[.int .i64 x, .slice (some ⟨g1, o1, none⟩) d.size c1] 55) = W0 at *
  have q0 := Up.cell (P0.out.q 0)
  have q1 := Up.cell (P0.out.q 1)
  have q2 := Up.cell (P0.out.f 3)
  have C1 := Lib.hid (up_call (W := W0) fun W _ => KE.out W)
  by_cases h1 : li < en
  · have d1 : decide (li < en) = true := decide_eq_true h1
    have HR : Hid (R = 1) := Lib.hid (HP.out.trans (if_pos h1))
    refine up_region W0 (Below.refl _ _) (by kernel_rfl) (by kernel_rfl) ?_
    repeat (go_big_quiet_step ((first | (go_at_call 42; (with_reducible exact C1.out _)))))
    refine wpQuiet_nil ?_
    refine up_out ?_
    intro W1 hb1
    have B1 := Lib.hid (P0.out.bel.trans (hb1.mono P0.out.bel.size))
    clear q0 q1 q2 C1 hb1
    go_wp2_with fail
    go_ret
    exact ⟨ret_int HR.out.symm, B1.out⟩
  have d1 : decide (li < en) = false := decide_eq_false h1
  have HP2 : Hid (R = if pfin rd l fi en fin then 2 else if pconf (pat l) o d then 3 else 0) := Lib.hid (HP.out.trans (if_neg h1))
  refine up_region W0 (Below.refl _ _) (by kernel_rfl) (by kernel_rfl) ?_
  repeat (go_big_quiet_step ((first | (go_at_call 42; (with_reducible exact C1.out _)))))
  refine wpQuiet_nil ?_
  refine up_out ?_
  intro W1 hb1
  have P1 := Lib.hid (P0.out.below hb1)
  clear q0 q1 q2 C1 hb1 P0 HP
  go_upto_region 3 with fail
  have q0 := Up.cell (P1.out.q 0)
  have q1 := Up.cell (P1.out.q 1)
  have r0 := Up.cell (P1.out.f 0)
  have r1 := Up.cell (P1.out.f 1)
  have r2 := Up.cell (P1.out.f 2)
  have r3 := Up.cell (P1.out.f 3)
  have C1 := Lib.hid (up_call (W := W1) fun W _ => KE.out W)
  have C2 := Lib.hid (up_call (W := W1) fun W hW => KC.out W (P1.out.bel.trans (hW.mono P1.out.bel.size)))
  by_cases h2 : pfin rd l fi en fin
  · rw [decide_eq_true h2] at C2
    have HR : Hid (R = 2) := Lib.hid (HP2.out.trans (if_pos h2))
    refine up_region W1 (Below.refl _ _) (by kernel_rfl) (by kernel_rfl) ?_
    repeat (go_big_quiet_step ((first | (go_at_call 42; (with_reducible exact C1.out _)) | (go_at_call 55; (with_reducible exact C2.out _)))))
    refine wpQuiet_nil ?_
    refine up_out ?_
    intro W2 hb2
    have B1 := Lib.hid (P1.out.bel.trans (hb2.mono P1.out.bel.size))
    clear q0 q1 r0 r1 r2 r3 C1 C2 hb2
    go_wp2_with fail
    go_ret
    exact ⟨ret_int HR.out.symm, B1.out⟩
  rw [decide_eq_false h2] at C2
  have HP3 : Hid (R = if pconf (pat l) o d then 3 else 0) := Lib.hid (HP2.out.trans (if_neg h2))
  refine up_region W1 (Below.refl _ _) (by kernel_rfl) (by kernel_rfl) ?_
  repeat (go_big_quiet_step ((first | (go_at_call 42; (with_reducible exact C1.out _)) | (go_at_call 55; (with_reducible exact C2.out _)))))
  refine wpQuiet_nil ?_
  refine up_out ?_
  intro W2 hb2
  have P2 := Lib.hid (P1.out.below hb2)
  clear q0 q1 r0 r1 r2 r3 C1 C2 hb2 P1 HP2 h2 KC KE
  go_upto_region 5 with fail
  have P3 := Lib.hid (P2.out.below (Below.refl _ _).drew)
  have k0 := P3.out.sc
  by_cases h3 : pconf (pat l) o d
  · have HR : Hid (R = 3) := Lib.hid (HP3.out.trans (if_pos h3))
    have HD : Hid (decide (∀ p ∈ l, agr p (x, d)) = false) := Lib.hid (decide_eq_false fun k => HAC.out.1 k h3)
    clear h3
    go_region_held3 (fun W => W.cell? ⟨w.heap.size, 0, none⟩ = some (.int .i64 rd) ∧ W.cell? ⟨w.heap.size, 1, none⟩ = some (.slice a l.length c) ∧ W.cell? ⟨w.heap.size, 2, none⟩ = some (.int .i64 fi) ∧ W.cell? ⟨w.heap.size, 3, none⟩ = some (.int .i64 li) ∧ W.cell? ⟨w.heap.size + 1, 0, none⟩ = some (.int .i64 x) ∧ W.cell? ⟨w.heap.size + 1, 1, none⟩ = some (.slice (some ⟨g1, o1, none⟩) d.size c1)) (with_reducible first | assumption | exact k0 | exact k1 | exact k2) ((first
      | (go_at_call 39; (with_reducible refine (KW.out _ P3.out.bel).mono ?_); rintro e w1 ⟨s, rfl, hb1, hi1⟩; have P4 := Lib.hid (P3.out.below hb1); have k1 := P4.out.sc; have HI := Lib.hid hi1; clear hi1)
      | (go_at_call 56; (with_reducible refine (KA.out _ P4.out.bel _ _ HI.out).mono ?_); rintro e w2 ⟨he, hb2⟩; rw [HD.out] at he; subst he; have P5 := Lib.hid (P4.out.below hb2); have k2 := P5.out.sc)))
    all_goals
      have B5 := Lib.hid P5.out.bel
      go_wp2_with fail
      go_ret
      exact ⟨ret_int HR.out.symm, B5.out⟩
  · have HR : Hid (R = 0) := Lib.hid (HP3.out.trans (if_neg h3))
    have HD : Hid (decide (∀ p ∈ l, agr p (x, d)) = true) := Lib.hid (decide_eq_true (HAC.out.2 h3))
    clear h3
    go_region_held3 (fun W => W.cell? ⟨w.heap.size, 0, none⟩ = some (.int .i64 rd) ∧ W.cell? ⟨w.heap.size, 1, none⟩ = some (.slice a l.length c) ∧ W.cell? ⟨w.heap.size, 2, none⟩ = some (.int .i64 fi) ∧ W.cell? ⟨w.heap.size, 3, none⟩ = some (.int .i64 li) ∧ W.cell? ⟨w.heap.size + 1, 0, none⟩ = some (.int .i64 x) ∧ W.cell? ⟨w.heap.size + 1, 1, none⟩ = some (.slice (some ⟨g1, o1, none⟩) d.size c1)) (with_reducible first | assumption | exact k0 | exact k1 | exact k2) ((first
      | (go_at_call 39; (with_reducible refine (KW.out _ P3.out.bel).mono ?_); rintro e w1 ⟨s, rfl, hb1, hi1⟩; have P4 := Lib.hid (P3.out.below hb1); have k1 := P4.out.sc; have HI := Lib.hid hi1; clear hi1)
      | (go_at_call 56; (with_reducible refine (KA.out _ P4.out.bel _ _ HI.out).mono ?_); rintro e w2 ⟨he, hb2⟩; rw [HD.out] at he; subst he; have P5 := Lib.hid (P4.out.below hb2); have k2 := P5.out.sc)))
    all_goals
      have B5 := Lib.hid P5.out.bel
      go_wp2_with fail
      go_ret
      exact ⟨ret_int HR.out.symm, B5.out⟩
end Go.Proofs.Ythdhjjbgegcncaa
