/- Chapter 31, the model: l31Read, with values. -/
import Derived.Test.YthdhjjbgegcncaaQvD
import Derived.Deep.RegionHeld3
namespace Go.Proofs.Ythdhjjbgegcncaa
open Go.RowKit
set_option linter.unusedVariables false
set_option linter.unusedSimpArgs false

theorem spieces_int (g B : Nat) (fr : Int) (f : Nat → Int) (w : World) (h : Rowf w B (.slice (some ⟨g, 0, none⟩) 30 30) f) (h0 : 0 ≤ fr) (h1 : fr ≤ 30) (hf : ∀ n, n < 30 → f n ≤ 255) :
    Calls Try.prog 54 #[.slice (some ⟨g, 0, none⟩) 30 30, .int .i64 fr] w (PcfPost w fr.toNat f) := by
  obtain ⟨n, rfl⟩ := Int.eq_ofNat_of_zero_le h0
  exact spiecesf_any g B n f w h (by omega) hf
theorem pok_bd : ∀ {rd lo : Int} {l : List Qc}, pok lo l → ∀ p ∈ l, lo ≤ p.1 ∧ p.1 + (p.2.size : Int) ≤ pend rd l
  | rd, lo, [], _, p, hp => by simp at hp
  | rd, lo, q :: t, h, p, hp => by
    have k := pend_ge (rd := q.1 + (q.2.size : Int)) h.2.2 (by omega)
    unfold pend
    rcases List.mem_cons.1 hp with e | hp
    · subst e; exact ⟨h.1, k⟩
    · have := pok_bd (rd := q.1 + (q.2.size : Int)) h.2.2 p hp
      have := h.1
      exact ⟨by omega, by omega⟩
theorem lay_all {lo : Int} {l : List Qc} (h : pok lo l) (n : Nat) : lay l (fun _ => -1) n = pat l n := by
  rw [lay_pat _ n h]
  rcases pat_cases l n with e | e
  · rw [e]; rfl
  · rw [if_pos e.1]
theorem rdy_pos {rd : Int} {l : List Qc} (hv : pok rd l) (h0 : 0 ≤ rd) (he : pend rd l ≤ 30) (h : 0 < rdy rd l) : 0 < l.length ∧ rdy rd l = (l.getD 0 pc0).2.size ∧ rd + (rdy rd l : Int) ≤ 30 ∧ ∀ i, i < (l.getD 0 pc0).2.size → dat (l.getD 0 pc0).2 i = pat l (rd.toNat + i) := by
  cases l with
  | nil => simp [rdy] at h
  | cons p t =>
    have hb := pok_bd (rd := rd) hv p (by simp)
    simp only [rdy] at h ⊢
    split at h
    · omega
    · rename_i hp
      rw [if_neg hp]
      have h1 := hv.1
      refine ⟨by simp, rfl, by omega, fun i hi => ?_⟩
      simp only [List.getD_cons_zero] at hi ⊢
      unfold pat
      rw [if_pos ⟨by omega, by omega⟩, show (((rd.toNat + i : Nat) : Int) - p.1).toNat = i by omega]
theorem red_of {rd : Int} {l lb : List Qc} {k : Nat} {d0 : ByteArray} (hv : pok rd l) (h0 : 0 ≤ rd) (he : pend rd l ≤ 30) (hpb : Bld (rd + (k : Int)).toNat (lay l fun _ => -1) 30 lb) (hk : k ≤ d0.size) (hd : ∀ i, i < d0.size → dat d0 i = pat l (rd.toNat + i)) : Red rd l k lb (d0.extract 0 k) := by
  have hz : (d0.extract 0 k).size = k := by simp; omega
  refine ⟨?_, hz, fun i hi => ?_⟩
  · have a := hpb.all (fun n _ => by
      rw [lay_all hv]
      refine ⟨by rcases pat_cases l n with e | e <;> omega, fun hn => ?_⟩
      rcases pat_cases l n with e | e
      · exact e
      · have := pat_end (rd := rd) hv e.1; omega)
    rw [show (((rd + (k : Int)).toNat : Nat) : Int) = rd + (k : Int) by omega] at a
    exact a.congr fun i _ => lay_all hv i
  · rw [← hd i (by omega)]
    unfold dat
    congr 2
    rw [show (d0.extract 0 k).data = d0.data.extract 0 k from ByteArray.data_extract, Array.getElem?_extract]
    have : i < min k d0.data.size - 0 := by
      have : d0.data.size = d0.size := rfl
      omega
    rw [if_pos this, Nat.zero_add]
theorem red_zero {rd : Int} {l : List Qc} (hv : pok rd l) : Red rd l 0 l ⟨#[]⟩ := ⟨by have := IsP.self hv; simpa using this, rfl, fun i hi => by omega⟩
/-- What l31Read answers after k bytes. -/
def RedAns (w : World) (rd fi li : Int) (l : List Qc) (k : Nat) (e : Ending) (w' : World) : Prop :=
  ∃ (x : Int) (v : Value) (l' : List Qc) (s : ByteArray), e = .returned (.tuple #[.agg #[.int .i64 x, v, .int .i64 fi, .int .i64 li], .string s]) ∧ x = rd + (k : Int) ∧ Red rd l k l' s ∧ Below w.heap.size w w' ∧ OwnPc w' w.heap.size v l' ∧ v ≠ .slice none 0 0

abbrev SS (w W : World) (rd fi li : Int) (v : Value) (l : List Pc) : Prop := W.cell? ⟨w.heap.size, 0, none⟩ = some (.int .i64 rd) ∧ W.cell? ⟨w.heap.size, 1, none⟩ = some v ∧ W.cell? ⟨w.heap.size, 2, none⟩ = some (.int .i64 fi) ∧ W.cell? ⟨w.heap.size, 3, none⟩ = some (.int .i64 li) ∧ Cur w W rd fi li v l
theorem sc_of {w W : World} {rd fi li : Int} {v : Value} {l : List Pc} (h : Cur w W rd fi li v l) : W.cell? ⟨w.heap.size, 0, none⟩ = some (.int .i64 rd) ∧ W.cell? ⟨w.heap.size, 1, none⟩ = some v ∧ W.cell? ⟨w.heap.size, 2, none⟩ = some (.int .i64 fi) ∧ W.cell? ⟨w.heap.size, 3, none⟩ = some (.int .i64 li) ∧ Cur w W rd fi li v l := ⟨h.2.2.1 0, h.2.2.1 1, h.2.2.1 2, h.2.2.1 3, h⟩
theorem Cur.alloc {w W : World} {rd fi li : Int} {v : Value} {l : List Pc} (h : Cur w W rd fi li v l) (o : Obj) : Cur w (W.alloc o) rd fi li v l := h.below ((Below.refl _ _).alloc (Nat.le_refl _) o)
theorem Cur.drew {w W : World} {rd fi li : Int} {v : Value} {l : List Pc} (h : Cur w W rd fi li v l) (n : Nat) : Cur w (W.drewN n) rd fi li v l := h.below (below_drewN' (Below.refl _ _) n)

theorem Pcs.far {w : World} {g o n c b i : Nat} {u : Value} {l : List Pc} (h : Pcs w (.slice (some ⟨g, o, none⟩) n c) l) (hb : b ≠ g) : Pcs (w.setCell ⟨b, i, none⟩ u) (.slice (some ⟨g, o, none⟩) n c) l := by
  obtain ⟨g', o', c', he, hn, hc⟩ := h
  injection he with e1 e2 e3
  injection e1 with e1
  injection e1 with e1 e4
  subst e1 e4 e3
  refine ⟨g, o, c, by rw [e2], hn, fun i hi => ⟨?_, ?_⟩⟩
  · exact (World.cell?_setCell_other _ _ _ _ (by intro e; injection e with e1 e2 e3; exact hb e1)).trans (hc i hi).1
  · exact (World.cell?_setCell_other _ _ _ _ (by intro e; injection e with e1 e2 e3; exact hb e1)).trans (hc i hi).2
theorem Cur.set {w W : World} {rd fi li : Int} {g o n c b i : Nat} {u : Value} {l : List Pc} (h : Cur w W rd fi li (.slice (some ⟨g, o, none⟩) n c) l) (hb : b ≠ g) (hb1 : w.heap.size + 1 < b) : Cur w (W.setCell ⟨b, i, none⟩ u) rd fi li (.slice (some ⟨g, o, none⟩) n c) l := by
  obtain ⟨h1, h2, h3, h4, h5, h6⟩ := h
  exact ⟨h1.setCell (p := ⟨b, i, none⟩) (by show _ ≤ b; omega) _, h2.far hb, h3.far (by omega) _, h4.far (by omega) _, h5.set _ _, by simpa using h6⟩
theorem sc_store {w W : World} {rd fi li : Int} {g o n c b : Nat} {l : List Pc} (h : Cur w W rd fi li (.slice (some ⟨g, o, none⟩) n c) l) (hb : b ≠ g) (hb1 : w.heap.size + 1 < b) (x0 x1 x2 x3 : Value) :
    SS w ((((W.setCell ⟨b, 0, none⟩ x0).setCell ⟨b, 1, none⟩ x1).setCell ⟨b, 2, none⟩ x2).setCell ⟨b, 3, none⟩ x3) rd fi li (.slice (some ⟨g, o, none⟩) n c) l :=
  sc_of ((((h.set (i := 0) (u := x0) hb hb1).set (i := 1) (u := x1) hb hb1).set (i := 2) (u := x2) hb hb1).set (i := 3) (u := x3) hb hb1)

/-- The four cells of the variable 'out' are written. -/
theorem out_set {w W : World} {rd fi li x : Int} {g o n c b gb nb cb B : Nat} {l lb : List Pc} (h : Cur w W rd fi li (.slice (some ⟨g, o, none⟩) n c) l) (hb : b ≠ g) (hb1 : w.heap.size + 1 < b)
    (FZ : Frm W b [.int .i64 0, .slice none 0 0, .int .i64 0, .int .i64 0]) (O : OwnPc W B (.slice (some ⟨gb, 0, none⟩) nb cb) lb) (hgb : b ≠ gb) :
    Cur w ((((W.setCell ⟨b, 0, none⟩ (.int .i64 x)).setCell ⟨b, 1, none⟩ (.slice (some ⟨gb, 0, none⟩) nb cb)).setCell ⟨b, 2, none⟩ (.int .i64 fi)).setCell ⟨b, 3, none⟩ (.int .i64 li)) rd fi li (.slice (some ⟨g, o, none⟩) n c) l ∧
    Frm ((((W.setCell ⟨b, 0, none⟩ (.int .i64 x)).setCell ⟨b, 1, none⟩ (.slice (some ⟨gb, 0, none⟩) nb cb)).setCell ⟨b, 2, none⟩ (.int .i64 fi)).setCell ⟨b, 3, none⟩ (.int .i64 li)) b [.int .i64 x, .slice (some ⟨gb, 0, none⟩) nb cb, .int .i64 fi, .int .i64 li] ∧
    OwnPc ((((W.setCell ⟨b, 0, none⟩ (.int .i64 x)).setCell ⟨b, 1, none⟩ (.slice (some ⟨gb, 0, none⟩) nb cb)).setCell ⟨b, 2, none⟩ (.int .i64 fi)).setCell ⟨b, 3, none⟩ (.int .i64 li)) B (.slice (some ⟨gb, 0, none⟩) nb cb) lb := by
  have hne : ∀ x, (Value.slice (some ⟨gb, 0, none⟩) nb cb).ownBlock = some x → b ≠ x := fun x hx => by
    have hx' : gb = x := Option.some.inj hx
    omega
  exact ⟨(sc_store h hb hb1 _ _ _ _).2.2.2.2,
    (((FZ.set (i := 0) (by simp) (.int .i64 x)).set (i := 1) (by simp) (.slice (some ⟨gb, 0, none⟩) nb cb)).set (i := 2) (by simp) (.int .i64 fi)).set (i := 3) (by simp) (.int .i64 li),
    own_far (i := 3) (u := .int .i64 li) (own_far (i := 2) (u := .int .i64 fi) (own_far (i := 1) (u := .slice (some ⟨gb, 0, none⟩) nb cb) (own_far (i := 0) (u := .int .i64 x) O hne) hne) hne) hne⟩
/-- The same, of a variable that is laid with its cells. -/
theorem out_new {w W : World} {rd fi li x : Int} {g o n c gb nb cb B : Nat} {l lb : List Pc} (h : Cur w W rd fi li (.slice (some ⟨g, o, none⟩) n c) l) (O : OwnPc W B (.slice (some ⟨gb, 0, none⟩) nb cb) lb) :
    Cur w (W.alloc (.cells #[.int .i64 x, .slice (some ⟨gb, 0, none⟩) nb cb, .int .i64 fi, .int .i64 li] 24)) rd fi li (.slice (some ⟨g, o, none⟩) n c) l ∧
    Frm (W.alloc (.cells #[.int .i64 x, .slice (some ⟨gb, 0, none⟩) nb cb, .int .i64 fi, .int .i64 li] 24)) W.heap.size [.int .i64 x, .slice (some ⟨gb, 0, none⟩) nb cb, .int .i64 fi, .int .i64 li] ∧
    OwnPc (W.alloc (.cells #[.int .i64 x, .slice (some ⟨gb, 0, none⟩) nb cb, .int .i64 fi, .int .i64 li] 24)) B (.slice (some ⟨gb, 0, none⟩) nb cb) lb :=
  ⟨h.alloc _, Frm.new W 24 [.int .i64 x, .slice (some ⟨gb, 0, none⟩) nb cb, .int .i64 fi, .int .i64 li], O.below ((Below.refl _ _).alloc (Nat.le_refl _) _)⟩

set_option maxRecDepth 100000 in
set_option maxHeartbeats 8000000 in
theorem sreadf_any (v : Value) (l : List Pc) (rd fi li n : Int) (w : World) (h : Pcs w v l) (hv : pok rd l) (hr0 : 0 ≤ rd) (he : pend rd l ≤ 30) (hl : l.length ≤ 1000) (h0 : 0 ≤ n) (h1 : n ≤ 1000) :
    Calls Try.prog 46 #[.agg #[.int .i64 rd, v, .int .i64 fi, .int .i64 li], .int .i64 n] w (RedAns w rd fi li l (min n.toNat (rdy rd l))) := by
  obtain ⟨m, rfl⟩ := Int.eq_ofNat_of_zero_le h0
  have HP := Lib.hid h
  have r1 : rd ≤ 30 := by have := pend_ge (rd := rd) hv (Int.le_refl _); omega
  have HP0 : Hid (POk 0 l) := Lib.hid fun p hp => by have := pok_bd (rd := rd) hv p hp; omega
  have SZ : Hid (∀ p ∈ l, p.2.size ≤ 1000000) := Lib.hid fun p hp => by have := HP0.out p hp; omega
  have HFB : Hid (∀ n, n < 30 → lay l (fun _ => -1) n ≤ 255) := Lib.hid fun n _ => by rw [lay_all hv]; rcases pat_cases l n with e | e <;> omega
  have HK0 := Lib.hid (rdy_pos hv hr0 he)
  have HRO := Lib.hid (fun (lb : List Qc) (k : Nat) (d0 : ByteArray) => red_of (lb := lb) (k := k) (d0 := d0) hv hr0 he)
  have HRZ := Lib.hid (red_zero hv)
  obtain ⟨k, hkk⟩ : ∃ k, rdy rd l = k := ⟨_, rfl⟩
  rw [hkk]
  rw [hkk] at HK0
  have HKK := Lib.hid hkk
  clear hv he hkk
  have h' := h
  obtain ⟨g, o, c, rfl, _, hc⟩ := h
  have HC := Lib.hid hc
  clear hc
  have CU := Lib.hid (Cur.start w (rd := rd) fi li h')
  clear h'
  go_enter Try.func46, Try.ntmps46
  go_wp2_with fail
  refine (sready_any _ l rd fi li _ CU.out.2.1 (by omega) SZ.out).mono ?_
  rintro e w1 ⟨rfl, hb1⟩
  rw [HKK.out]
  have HK := HK0
  clear HK0
  have CU1 := Lib.hid (CU.out.below hb1)
  clear hb1 CU
  have q0 := CU1.out.2.2.1 0
  have q1 := CU1.out.2.2.1 1
  have q2 := CU1.out.2.2.1 2
  have q3 := CU1.out.2.2.1 3
  by_cases hkn : (k : Int) < (m : Int)
  · by_cases hk0 : k = 0
    · subst hk0
      have hb : ((0 : Int) == 0) = true := rfl
      go_wp2_with fail
      refine (scopy_any _ l rd fi li _ CU1.out.2.1 (by omega)).mono ?_
      rintro e w2 ⟨v2, rfl, hb2, ho2, hn2⟩
      have CU2 := Lib.hid (CU1.out.below hb2)
      clear hb2 q0 q1 q2 q3
      obtain ⟨g2, c2, rfl, hc2, hga, hgb⟩ := ho2.sl hn2
      obtain ⟨B2, P2, F2, Z2, T2, S2⟩ := CU2.out
      have FIN := Lib.hid (fin_cells (rd := rd) (fi := fi) (li := li) B2 Z2 ho2 CU1.out.2.2.2.2.2 hga)
      have r0 := Z2 0
      have r1 := Z2 1
      have r2 := Z2 2
      have r3 := Z2 3
      have t0 := T2 0
      have t1 := T2 1
      have t2 := T2 2
      have t3 := T2 3
      clear B2 P2 F2 Z2 T2 S2 ho2 hn2
      go_wp2_with fail
      obtain ⟨B5, F5, O5⟩ := FIN.out
      clear FIN r0 r1 r2 r3 t0 t1 t2 t3
      generalize ((((w2.setCell ⟨w.heap.size + 1, 0, none⟩ (.int .i64 (rd))).setCell ⟨w.heap.size + 1, 1, none⟩ (.slice (some ⟨g2, 0, none⟩) l.length c2)).setCell ⟨w.heap.size + 1, 2, none⟩ (.int .i64 fi)).setCell ⟨w.heap.size + 1, 3, none⟩ (.int .i64 li)) = W5 at *
      have s0 := F5 0
      have s1 := F5 1
      have s2 := F5 2
      have s3 := F5 3
      refine bodyPost_ret (v := .tuple #[.agg #[.int .i64 (rd), .slice (some ⟨g2, 0, none⟩) l.length c2, .int .i64 fi, .int .i64 li], .string ⟨#[]⟩]) ?hr rfl ?_
      case hr => rw [results_cell_tmp rfl]; go_simp
      exact ⟨rd, _, l, _, rfl, by first | omega | (simp; done), by first | (rw [show min ((m : Int).toNat) 0 = 0 by omega]; exact HRZ.out) | (rw [show min (((0 : Nat) : Int).toNat) k = 0 by omega]; exact HRZ.out) | (simpa using HRZ.out), B5, O5, by simp⟩
    · have hkb : ((k : Int) == 0) = false := by rw [beq_eq_false_iff_ne]; omega
      have hkc : (k == 0) = false := by rw [beq_eq_false_iff_ne]; omega
      obtain ⟨k1, k2, k3, k4⟩ := HK.out (by omega)
      have K4 := Lib.hid k4
      clear k4
      have e2 : w1.cell? ⟨g, o + 0 * 2 + 1, none⟩ = some (.string (l.getD 0 pc0).2) := pcs_at CU1.out.2.1 0 k1
      have hk1 : ((k : Int)) ≤ ((l.getD 0 pc0).2.size : Int) := by omega
      clear k2
      have hgw : g < w1.heap.size := World.block_lt_of_cell? w1 _ e2
      simp only [Nat.zero_mul, Nat.add_zero] at e2
      generalize (l.getD 0 pc0).2 = d0 at e2 hk1 K4
      have j1 : (0 : Int) ≤ (k : Int) := by omega
      have j1b : (0 : Int) < (l.length : Int) := by omega
      have j2 : IntKind.i64.wrap (rd + (k : Int)) = rd + (k : Int) := IntWalk.i64_in _ (by omega)
      go_wp2_with fail
      have CUd : Cur w w1.drew rd fi li (.slice (some ⟨g, o, none⟩) l.length c) l := CU1.out.drew 1
      have j4 : 0 ≤ rd + (k : Int) := by omega
      have j5 : rd + (k : Int) ≤ 30 := by omega
      have PCd : Pcs w1.drew (.slice (some ⟨g, o, none⟩) l.length c) l := CUd.2.1
      have CUe : ∀ ob, Cur w (w1.alloc ob).drew rd fi li (.slice (some ⟨g, o, none⟩) l.length c) l := fun ob => (CU1.out.alloc ob).drew 1
      have PCda : ∀ ob, Pcs (w1.alloc ob).drew (.slice (some ⟨g, o, none⟩) l.length c) l := fun ob => (CUe ob).2.1
      have kSE := fun ob => sc_of (CUe ob)
      have kS1 := sc_of CU1.out
      have kSd := sc_of CUd
      have hl6 : l.length ≤ 1000000 := by omega
      go_region_held3 (fun W => W.cell? ⟨w.heap.size, 0, none⟩ = some (.int .i64 rd) ∧ W.cell? ⟨w.heap.size, 1, none⟩ = some (.slice (some ⟨g, o, none⟩) l.length c) ∧ W.cell? ⟨w.heap.size, 2, none⟩ = some (.int .i64 fi) ∧ W.cell? ⟨w.heap.size, 3, none⟩ = some (.int .i64 li) ∧ Cur w W rd fi li (.slice (some ⟨g, o, none⟩) l.length c) l)
        ((with_reducible first | assumption | (exact kSA) | (exact kSB) | (exact kSC _) | (exact kSD _ _ _ _) | (exact kS1) | (exact kSd) | (exact kSE _) | (exact kSF _)))
        ((first
          | (go_at_call 53; (with_reducible refine (sbytesf_any _ l rd fi li _ PCd HP0.out hl6).mono ?_); rintro e wa ⟨ga, rfl, hba, hra⟩; have hraA := fun ob => hra.below ((Below.refl _ _).alloc (Nat.le_refl _) ob); have CUa := CUd.below hba; have kSF := fun ob => sc_of (CUa.alloc ob); have kSA := sc_of CUa)
          | (go_at_call 53; (with_reducible refine (sbytesf_any _ l rd fi li _ (PCda _) HP0.out hl6).mono ?_); rintro e wa ⟨ga, rfl, hba, hra⟩; have hraA := fun ob => hra.below ((Below.refl _ _).alloc (Nat.le_refl _) ob); have CUa := (CUe _).below hba; have kSF := fun ob => sc_of (CUa.alloc ob); have kSA := sc_of CUa; have FY : Frm wa w1.heap.size [.int .i64 0, .slice none 0 0, .int .i64 0, .int .i64 0] := Frm.below (show Frm (w1.alloc (.cells #[.int .i64 0, .slice none 0 0, .int .i64 0, .int .i64 0] 24)).drew w1.heap.size [.int .i64 0, .slice none 0 0, .int .i64 0, .int .i64 0] from Frm.new w1 24 [.int .i64 0, .slice none 0 0, .int .i64 0, .int .i64 0]) hba (by simp); have TY : Thaw wa w1.heap.size := Thaw.below (show Thaw (w1.alloc (.cells #[.int .i64 0, .slice none 0 0, .int .i64 0, .int .i64 0] 24)).drew w1.heap.size from Thaw.new w1 24 [.int .i64 0, .slice none 0 0, .int .i64 0, .int .i64 0]) hba (by simp))
          | (go_at_call 54; (with_reducible refine (spieces_int ga _ _ _ _ (hraA _) j4 j5 HFB.out).mono ?_); rintro e wb ⟨vb, lb, rfl, hbb, hob, hpb, hlb, hnb⟩; obtain ⟨gb, cb, rfl, hcb, hgb1, hgb2⟩ := hob.sl hnb; have CUb := (CUa.alloc _).below hbb; have kSB := sc_of CUb; have FZ := Frm.below (Frm.new wa 24 [.int .i64 0, .slice none 0 0, .int .i64 0, .int .i64 0]) hbb (by simp); have TZ := Thaw.below (Thaw.new wa 24 [.int .i64 0, .slice none 0 0, .int .i64 0, .int .i64 0]) hbb (by simp); have z0 := FZ 0; have z1 := FZ 1; have z2 := FZ 2; have z3 := FZ 3; have y0 := TZ 0; have y1 := TZ 1; have y2 := TZ 2; have y3 := TZ 3; have kSD := sc_store CUb (b := wa.heap.size) (by have := hba.size; simp at this; omega) (by have := hba.size; have := CU1.out.2.2.2.2.2; simp at *; omega))
          | (go_at_call 54; (with_reducible refine (spieces_int ga _ _ _ _ hra j4 j5 HFB.out).mono ?_); rintro e wb ⟨vb, lb, rfl, hbb, hob, hpb, hlb, hnb⟩; obtain ⟨gb, cb, rfl, hcb, hgb1, hgb2⟩ := hob.sl hnb; have CUb := CUa.below hbb; have kSB := sc_of CUb; have hws : w1.heap.size < wa.heap.size := (by have := hba.size; simp at this; omega); have FZ := Frm.below FY hbb hws; have TZ := Thaw.below TY hbb hws; have z0 := FZ 0; have z1 := FZ 1; have z2 := FZ 2; have z3 := FZ 3; have y0 := TZ 0; have y1 := TZ 1; have y2 := TZ 2; have y3 := TZ 3; have kSD := sc_store CUb (b := w1.heap.size) (by omega) CU1.out.2.2.2.2.2)
          | (go_at_call 54; (with_reducible refine (spieces_int ga _ _ _ _ hra j4 j5 HFB.out).mono ?_); rintro e wb ⟨vb, lb, rfl, hbb, hob, hpb, hlb, hnb⟩; obtain ⟨gb, cb, rfl, hcb, hgb1, hgb2⟩ := hob.sl hnb; have CUb := CUa.below hbb; have kSB := sc_of CUb; have kSC := fun o => sc_of (CUb.alloc o))))
      · have OUT := Lib.hid (out_new (x := rd + (k : Int)) CUb hob)
        have hwa : w.heap.size + 1 < wa.heap.size := CUa.2.2.2.2.2
        clear CUa CUb kSA kSB
        clear CUd CUe PCd PCda kSE kS1 kSd kSF
        generalize hW5 : (wb.alloc (.cells #[.int .i64 (rd + (k : Int)), .slice (some ⟨gb, 0, none⟩) lb.length cb, .int .i64 fi, .int .i64 li] 24)) = W5 at *
        clear hW5
        obtain ⟨CO, FO, OO⟩ := OUT.out
        obtain ⟨B2, P2, F2, Z2, T2, S2⟩ := CO
        have FIN := Lib.hid (fin_cells (rd := rd + (k : Int)) (fi := fi) (li := li) B2 Z2 OO (by first | omega | (simp; omega)) hgb1)
        have o0 := FO 0
        have o1 := FO 1
        have o2 := FO 2
        have o3 := FO 3
        have r0 := Z2 0
        have r1 := Z2 1
        have r2 := Z2 2
        have r3 := Z2 3
        have t0 := T2 0
        have t1 := T2 1
        have t2 := T2 2
        have t3 := T2 3
        clear B2 P2 F2 Z2 T2 S2 OO FO
        go_wp2_with fail
        obtain ⟨B5, F5, O5⟩ := FIN.out
        clear FIN r0 r1 r2 r3 t0 t1 t2 t3 o0 o1 o2 o3
        generalize ((((W5.setCell ⟨w.heap.size + 1, 0, none⟩ (.int .i64 (rd + (k : Int)))).setCell ⟨w.heap.size + 1, 1, none⟩ (.slice (some ⟨gb, 0, none⟩) lb.length cb)).setCell ⟨w.heap.size + 1, 2, none⟩ (.int .i64 fi)).setCell ⟨w.heap.size + 1, 3, none⟩ (.int .i64 li)) = W6 at *
        have s0 := F5 0
        have s1 := F5 1
        have s2 := F5 2
        have s3 := F5 3
        refine bodyPost_ret (v := .tuple #[.agg #[.int .i64 (rd + (k : Int)), .slice (some ⟨gb, 0, none⟩) lb.length cb, .int .i64 fi, .int .i64 li], .string (d0.extract 0 k)]) ?hr rfl ?_
        case hr => rw [results_cell_tmp rfl]; go_simp
        exact ⟨rd + (k : Int), _, lb, _, rfl, by rw [show min ((m : Int).toNat) k = k by omega], by rw [show min ((m : Int).toNat) k = k by omega]; exact HRO.out lb k d0 hpb (by omega) K4.out, B5, O5, by simp⟩
      · have OUT := Lib.hid (out_set (x := rd + (k : Int)) CUb (b := wa.heap.size) (by have := hba.size; simp at this; omega) (by have := hba.size; have := CU1.out.2.2.2.2.2; simp at *; omega) FZ hob (by have := hgb1; simp at this; omega))
        have hwa : w.heap.size + 1 < wa.heap.size := CUa.2.2.2.2.2
        clear CUa CUb kSA kSB
        clear CUd CUe PCd PCda kSE kS1 kSd kSF
        generalize hW5 : ((((wb.setCell ⟨wa.heap.size, 0, none⟩ (.int .i64 (rd + (k : Int)))).setCell ⟨wa.heap.size, 1, none⟩ (.slice (some ⟨gb, 0, none⟩) lb.length cb)).setCell ⟨wa.heap.size, 2, none⟩ (.int .i64 fi)).setCell ⟨wa.heap.size, 3, none⟩ (.int .i64 li)) = W5 at *
        clear hW5
        obtain ⟨CO, FO, OO⟩ := OUT.out
        obtain ⟨B2, P2, F2, Z2, T2, S2⟩ := CO
        have FIN := Lib.hid (fin_cells (rd := rd + (k : Int)) (fi := fi) (li := li) B2 Z2 OO (by first | omega | (simp; omega)) hgb1)
        have o0 := FO 0
        have o1 := FO 1
        have o2 := FO 2
        have o3 := FO 3
        have r0 := Z2 0
        have r1 := Z2 1
        have r2 := Z2 2
        have r3 := Z2 3
        have t0 := T2 0
        have t1 := T2 1
        have t2 := T2 2
        have t3 := T2 3
        clear B2 P2 F2 Z2 T2 S2 OO FO
        go_wp2_with fail
        obtain ⟨B5, F5, O5⟩ := FIN.out
        clear FIN r0 r1 r2 r3 t0 t1 t2 t3 o0 o1 o2 o3
        generalize ((((W5.setCell ⟨w.heap.size + 1, 0, none⟩ (.int .i64 (rd + (k : Int)))).setCell ⟨w.heap.size + 1, 1, none⟩ (.slice (some ⟨gb, 0, none⟩) lb.length cb)).setCell ⟨w.heap.size + 1, 2, none⟩ (.int .i64 fi)).setCell ⟨w.heap.size + 1, 3, none⟩ (.int .i64 li)) = W6 at *
        have s0 := F5 0
        have s1 := F5 1
        have s2 := F5 2
        have s3 := F5 3
        refine bodyPost_ret (v := .tuple #[.agg #[.int .i64 (rd + (k : Int)), .slice (some ⟨gb, 0, none⟩) lb.length cb, .int .i64 fi, .int .i64 li], .string (d0.extract 0 k)]) ?hr rfl ?_
        case hr => rw [results_cell_tmp rfl]; go_simp
        exact ⟨rd + (k : Int), _, lb, _, rfl, by rw [show min ((m : Int).toNat) k = k by omega], by rw [show min ((m : Int).toNat) k = k by omega]; exact HRO.out lb k d0 hpb (by omega) K4.out, B5, O5, by simp⟩
      · have OUT := Lib.hid (out_set (x := rd + (k : Int)) CUb (b := w1.heap.size) (by omega) CU1.out.2.2.2.2.2 FZ hob (by have := hgb1; omega))
        have hwa : w.heap.size + 1 < wa.heap.size := CUa.2.2.2.2.2
        clear CUa CUb kSA kSB
        clear CUd CUe PCd PCda kSE kS1 kSd kSF
        generalize hW5 : ((((wb.setCell ⟨w1.heap.size, 0, none⟩ (.int .i64 (rd + (k : Int)))).setCell ⟨w1.heap.size, 1, none⟩ (.slice (some ⟨gb, 0, none⟩) lb.length cb)).setCell ⟨w1.heap.size, 2, none⟩ (.int .i64 fi)).setCell ⟨w1.heap.size, 3, none⟩ (.int .i64 li)) = W5 at *
        clear hW5
        obtain ⟨CO, FO, OO⟩ := OUT.out
        obtain ⟨B2, P2, F2, Z2, T2, S2⟩ := CO
        have FIN := Lib.hid (fin_cells (rd := rd + (k : Int)) (fi := fi) (li := li) B2 Z2 OO (by first | omega | (simp; omega)) hgb1)
        have o0 := FO 0
        have o1 := FO 1
        have o2 := FO 2
        have o3 := FO 3
        have r0 := Z2 0
        have r1 := Z2 1
        have r2 := Z2 2
        have r3 := Z2 3
        have t0 := T2 0
        have t1 := T2 1
        have t2 := T2 2
        have t3 := T2 3
        clear B2 P2 F2 Z2 T2 S2 OO FO
        go_wp2_with fail
        obtain ⟨B5, F5, O5⟩ := FIN.out
        clear FIN r0 r1 r2 r3 t0 t1 t2 t3 o0 o1 o2 o3
        generalize ((((W5.setCell ⟨w.heap.size + 1, 0, none⟩ (.int .i64 (rd + (k : Int)))).setCell ⟨w.heap.size + 1, 1, none⟩ (.slice (some ⟨gb, 0, none⟩) lb.length cb)).setCell ⟨w.heap.size + 1, 2, none⟩ (.int .i64 fi)).setCell ⟨w.heap.size + 1, 3, none⟩ (.int .i64 li)) = W6 at *
        have s0 := F5 0
        have s1 := F5 1
        have s2 := F5 2
        have s3 := F5 3
        refine bodyPost_ret (v := .tuple #[.agg #[.int .i64 (rd + (k : Int)), .slice (some ⟨gb, 0, none⟩) lb.length cb, .int .i64 fi, .int .i64 li], .string (d0.extract 0 k)]) ?hr rfl ?_
        case hr => rw [results_cell_tmp rfl]; go_simp
        exact ⟨rd + (k : Int), _, lb, _, rfl, by rw [show min ((m : Int).toNat) k = k by omega], by rw [show min ((m : Int).toNat) k = k by omega]; exact HRO.out lb k d0 hpb (by omega) K4.out, B5, O5, by simp⟩
  · by_cases hk0 : m = 0
    · subst hk0
      have hb : ((0 : Int) == 0) = true := rfl
      go_wp2_with fail
      refine (scopy_any _ l rd fi li _ CU1.out.2.1 (by omega)).mono ?_
      rintro e w2 ⟨v2, rfl, hb2, ho2, hn2⟩
      have CU2 := Lib.hid (CU1.out.below hb2)
      clear hb2 q0 q1 q2 q3
      obtain ⟨g2, c2, rfl, hc2, hga, hgb⟩ := ho2.sl hn2
      obtain ⟨B2, P2, F2, Z2, T2, S2⟩ := CU2.out
      have FIN := Lib.hid (fin_cells (rd := rd) (fi := fi) (li := li) B2 Z2 ho2 CU1.out.2.2.2.2.2 hga)
      have r0 := Z2 0
      have r1 := Z2 1
      have r2 := Z2 2
      have r3 := Z2 3
      have t0 := T2 0
      have t1 := T2 1
      have t2 := T2 2
      have t3 := T2 3
      clear B2 P2 F2 Z2 T2 S2 ho2 hn2
      go_wp2_with fail
      obtain ⟨B5, F5, O5⟩ := FIN.out
      clear FIN r0 r1 r2 r3 t0 t1 t2 t3
      generalize ((((w2.setCell ⟨w.heap.size + 1, 0, none⟩ (.int .i64 (rd))).setCell ⟨w.heap.size + 1, 1, none⟩ (.slice (some ⟨g2, 0, none⟩) l.length c2)).setCell ⟨w.heap.size + 1, 2, none⟩ (.int .i64 fi)).setCell ⟨w.heap.size + 1, 3, none⟩ (.int .i64 li)) = W5 at *
      have s0 := F5 0
      have s1 := F5 1
      have s2 := F5 2
      have s3 := F5 3
      refine bodyPost_ret (v := .tuple #[.agg #[.int .i64 (rd), .slice (some ⟨g2, 0, none⟩) l.length c2, .int .i64 fi, .int .i64 li], .string ⟨#[]⟩]) ?hr rfl ?_
      case hr => rw [results_cell_tmp rfl]; go_simp
      exact ⟨rd, _, l, _, rfl, by first | omega | (simp; done), by first | (rw [show min ((m : Int).toNat) 0 = 0 by omega]; exact HRZ.out) | (rw [show min (((0 : Nat) : Int).toNat) k = 0 by omega]; exact HRZ.out) | (simpa using HRZ.out), B5, O5, by simp⟩
    · have hkb : ((m : Int) == 0) = false := by rw [beq_eq_false_iff_ne]; omega
      have hkc : (m == 0) = false := by rw [beq_eq_false_iff_ne]; omega
      obtain ⟨k1, k2, k3, k4⟩ := HK.out (by omega)
      have K4 := Lib.hid k4
      clear k4
      have e2 : w1.cell? ⟨g, o + 0 * 2 + 1, none⟩ = some (.string (l.getD 0 pc0).2) := pcs_at CU1.out.2.1 0 k1
      have hk1 : ((m : Int)) ≤ ((l.getD 0 pc0).2.size : Int) := by omega
      clear k2
      have hgw : g < w1.heap.size := World.block_lt_of_cell? w1 _ e2
      simp only [Nat.zero_mul, Nat.add_zero] at e2
      generalize (l.getD 0 pc0).2 = d0 at e2 hk1 K4
      have j1 : (0 : Int) ≤ (m : Int) := by omega
      have j1b : (0 : Int) < (l.length : Int) := by omega
      have j2 : IntKind.i64.wrap (rd + (m : Int)) = rd + (m : Int) := IntWalk.i64_in _ (by omega)
      go_wp2_with fail
      have CUd : Cur w w1.drew rd fi li (.slice (some ⟨g, o, none⟩) l.length c) l := CU1.out.drew 1
      have j4 : 0 ≤ rd + (m : Int) := by omega
      have j5 : rd + (m : Int) ≤ 30 := by omega
      have PCd : Pcs w1.drew (.slice (some ⟨g, o, none⟩) l.length c) l := CUd.2.1
      have CUe : ∀ ob, Cur w (w1.alloc ob).drew rd fi li (.slice (some ⟨g, o, none⟩) l.length c) l := fun ob => (CU1.out.alloc ob).drew 1
      have PCda : ∀ ob, Pcs (w1.alloc ob).drew (.slice (some ⟨g, o, none⟩) l.length c) l := fun ob => (CUe ob).2.1
      have kSE := fun ob => sc_of (CUe ob)
      have kS1 := sc_of CU1.out
      have kSd := sc_of CUd
      have hl6 : l.length ≤ 1000000 := by omega
      go_region_held3 (fun W => W.cell? ⟨w.heap.size, 0, none⟩ = some (.int .i64 rd) ∧ W.cell? ⟨w.heap.size, 1, none⟩ = some (.slice (some ⟨g, o, none⟩) l.length c) ∧ W.cell? ⟨w.heap.size, 2, none⟩ = some (.int .i64 fi) ∧ W.cell? ⟨w.heap.size, 3, none⟩ = some (.int .i64 li) ∧ Cur w W rd fi li (.slice (some ⟨g, o, none⟩) l.length c) l)
        ((with_reducible first | assumption | (exact kSA) | (exact kSB) | (exact kSC _) | (exact kSD _ _ _ _) | (exact kS1) | (exact kSd) | (exact kSE _) | (exact kSF _)))
        ((first
          | (go_at_call 53; (with_reducible refine (sbytesf_any _ l rd fi li _ PCd HP0.out hl6).mono ?_); rintro e wa ⟨ga, rfl, hba, hra⟩; have hraA := fun ob => hra.below ((Below.refl _ _).alloc (Nat.le_refl _) ob); have CUa := CUd.below hba; have kSF := fun ob => sc_of (CUa.alloc ob); have kSA := sc_of CUa)
          | (go_at_call 53; (with_reducible refine (sbytesf_any _ l rd fi li _ (PCda _) HP0.out hl6).mono ?_); rintro e wa ⟨ga, rfl, hba, hra⟩; have hraA := fun ob => hra.below ((Below.refl _ _).alloc (Nat.le_refl _) ob); have CUa := (CUe _).below hba; have kSF := fun ob => sc_of (CUa.alloc ob); have kSA := sc_of CUa; have FY : Frm wa w1.heap.size [.int .i64 0, .slice none 0 0, .int .i64 0, .int .i64 0] := Frm.below (show Frm (w1.alloc (.cells #[.int .i64 0, .slice none 0 0, .int .i64 0, .int .i64 0] 24)).drew w1.heap.size [.int .i64 0, .slice none 0 0, .int .i64 0, .int .i64 0] from Frm.new w1 24 [.int .i64 0, .slice none 0 0, .int .i64 0, .int .i64 0]) hba (by simp); have TY : Thaw wa w1.heap.size := Thaw.below (show Thaw (w1.alloc (.cells #[.int .i64 0, .slice none 0 0, .int .i64 0, .int .i64 0] 24)).drew w1.heap.size from Thaw.new w1 24 [.int .i64 0, .slice none 0 0, .int .i64 0, .int .i64 0]) hba (by simp))
          | (go_at_call 54; (with_reducible refine (spieces_int ga _ _ _ _ (hraA _) j4 j5 HFB.out).mono ?_); rintro e wb ⟨vb, lb, rfl, hbb, hob, hpb, hlb, hnb⟩; obtain ⟨gb, cb, rfl, hcb, hgb1, hgb2⟩ := hob.sl hnb; have CUb := (CUa.alloc _).below hbb; have kSB := sc_of CUb; have FZ := Frm.below (Frm.new wa 24 [.int .i64 0, .slice none 0 0, .int .i64 0, .int .i64 0]) hbb (by simp); have TZ := Thaw.below (Thaw.new wa 24 [.int .i64 0, .slice none 0 0, .int .i64 0, .int .i64 0]) hbb (by simp); have z0 := FZ 0; have z1 := FZ 1; have z2 := FZ 2; have z3 := FZ 3; have y0 := TZ 0; have y1 := TZ 1; have y2 := TZ 2; have y3 := TZ 3; have kSD := sc_store CUb (b := wa.heap.size) (by have := hba.size; simp at this; omega) (by have := hba.size; have := CU1.out.2.2.2.2.2; simp at *; omega))
          | (go_at_call 54; (with_reducible refine (spieces_int ga _ _ _ _ hra j4 j5 HFB.out).mono ?_); rintro e wb ⟨vb, lb, rfl, hbb, hob, hpb, hlb, hnb⟩; obtain ⟨gb, cb, rfl, hcb, hgb1, hgb2⟩ := hob.sl hnb; have CUb := CUa.below hbb; have kSB := sc_of CUb; have hws : w1.heap.size < wa.heap.size := (by have := hba.size; simp at this; omega); have FZ := Frm.below FY hbb hws; have TZ := Thaw.below TY hbb hws; have z0 := FZ 0; have z1 := FZ 1; have z2 := FZ 2; have z3 := FZ 3; have y0 := TZ 0; have y1 := TZ 1; have y2 := TZ 2; have y3 := TZ 3; have kSD := sc_store CUb (b := w1.heap.size) (by omega) CU1.out.2.2.2.2.2)
          | (go_at_call 54; (with_reducible refine (spieces_int ga _ _ _ _ hra j4 j5 HFB.out).mono ?_); rintro e wb ⟨vb, lb, rfl, hbb, hob, hpb, hlb, hnb⟩; obtain ⟨gb, cb, rfl, hcb, hgb1, hgb2⟩ := hob.sl hnb; have CUb := CUa.below hbb; have kSB := sc_of CUb; have kSC := fun o => sc_of (CUb.alloc o))))
      · have OUT := Lib.hid (out_new (x := rd + (m : Int)) CUb hob)
        have hwa : w.heap.size + 1 < wa.heap.size := CUa.2.2.2.2.2
        clear CUa CUb kSA kSB
        clear CUd CUe PCd PCda kSE kS1 kSd kSF
        generalize hW5 : (wb.alloc (.cells #[.int .i64 (rd + (m : Int)), .slice (some ⟨gb, 0, none⟩) lb.length cb, .int .i64 fi, .int .i64 li] 24)) = W5 at *
        clear hW5
        obtain ⟨CO, FO, OO⟩ := OUT.out
        obtain ⟨B2, P2, F2, Z2, T2, S2⟩ := CO
        have FIN := Lib.hid (fin_cells (rd := rd + (m : Int)) (fi := fi) (li := li) B2 Z2 OO (by first | omega | (simp; omega)) hgb1)
        have o0 := FO 0
        have o1 := FO 1
        have o2 := FO 2
        have o3 := FO 3
        have r0 := Z2 0
        have r1 := Z2 1
        have r2 := Z2 2
        have r3 := Z2 3
        have t0 := T2 0
        have t1 := T2 1
        have t2 := T2 2
        have t3 := T2 3
        clear B2 P2 F2 Z2 T2 S2 OO FO
        go_wp2_with fail
        obtain ⟨B5, F5, O5⟩ := FIN.out
        clear FIN r0 r1 r2 r3 t0 t1 t2 t3 o0 o1 o2 o3
        generalize ((((W5.setCell ⟨w.heap.size + 1, 0, none⟩ (.int .i64 (rd + (m : Int)))).setCell ⟨w.heap.size + 1, 1, none⟩ (.slice (some ⟨gb, 0, none⟩) lb.length cb)).setCell ⟨w.heap.size + 1, 2, none⟩ (.int .i64 fi)).setCell ⟨w.heap.size + 1, 3, none⟩ (.int .i64 li)) = W6 at *
        have s0 := F5 0
        have s1 := F5 1
        have s2 := F5 2
        have s3 := F5 3
        refine bodyPost_ret (v := .tuple #[.agg #[.int .i64 (rd + (m : Int)), .slice (some ⟨gb, 0, none⟩) lb.length cb, .int .i64 fi, .int .i64 li], .string (d0.extract 0 m)]) ?hr rfl ?_
        case hr => rw [results_cell_tmp rfl]; go_simp
        exact ⟨rd + (m : Int), _, lb, _, rfl, by rw [show min ((m : Int).toNat) k = m by omega], by rw [show min ((m : Int).toNat) k = m by omega]; exact HRO.out lb m d0 hpb (by omega) K4.out, B5, O5, by simp⟩
      · have OUT := Lib.hid (out_set (x := rd + (m : Int)) CUb (b := wa.heap.size) (by have := hba.size; simp at this; omega) (by have := hba.size; have := CU1.out.2.2.2.2.2; simp at *; omega) FZ hob (by have := hgb1; simp at this; omega))
        have hwa : w.heap.size + 1 < wa.heap.size := CUa.2.2.2.2.2
        clear CUa CUb kSA kSB
        clear CUd CUe PCd PCda kSE kS1 kSd kSF
        generalize hW5 : ((((wb.setCell ⟨wa.heap.size, 0, none⟩ (.int .i64 (rd + (m : Int)))).setCell ⟨wa.heap.size, 1, none⟩ (.slice (some ⟨gb, 0, none⟩) lb.length cb)).setCell ⟨wa.heap.size, 2, none⟩ (.int .i64 fi)).setCell ⟨wa.heap.size, 3, none⟩ (.int .i64 li)) = W5 at *
        clear hW5
        obtain ⟨CO, FO, OO⟩ := OUT.out
        obtain ⟨B2, P2, F2, Z2, T2, S2⟩ := CO
        have FIN := Lib.hid (fin_cells (rd := rd + (m : Int)) (fi := fi) (li := li) B2 Z2 OO (by first | omega | (simp; omega)) hgb1)
        have o0 := FO 0
        have o1 := FO 1
        have o2 := FO 2
        have o3 := FO 3
        have r0 := Z2 0
        have r1 := Z2 1
        have r2 := Z2 2
        have r3 := Z2 3
        have t0 := T2 0
        have t1 := T2 1
        have t2 := T2 2
        have t3 := T2 3
        clear B2 P2 F2 Z2 T2 S2 OO FO
        go_wp2_with fail
        obtain ⟨B5, F5, O5⟩ := FIN.out
        clear FIN r0 r1 r2 r3 t0 t1 t2 t3 o0 o1 o2 o3
        generalize ((((W5.setCell ⟨w.heap.size + 1, 0, none⟩ (.int .i64 (rd + (m : Int)))).setCell ⟨w.heap.size + 1, 1, none⟩ (.slice (some ⟨gb, 0, none⟩) lb.length cb)).setCell ⟨w.heap.size + 1, 2, none⟩ (.int .i64 fi)).setCell ⟨w.heap.size + 1, 3, none⟩ (.int .i64 li)) = W6 at *
        have s0 := F5 0
        have s1 := F5 1
        have s2 := F5 2
        have s3 := F5 3
        refine bodyPost_ret (v := .tuple #[.agg #[.int .i64 (rd + (m : Int)), .slice (some ⟨gb, 0, none⟩) lb.length cb, .int .i64 fi, .int .i64 li], .string (d0.extract 0 m)]) ?hr rfl ?_
        case hr => rw [results_cell_tmp rfl]; go_simp
        exact ⟨rd + (m : Int), _, lb, _, rfl, by rw [show min ((m : Int).toNat) k = m by omega], by rw [show min ((m : Int).toNat) k = m by omega]; exact HRO.out lb m d0 hpb (by omega) K4.out, B5, O5, by simp⟩
      · have OUT := Lib.hid (out_set (x := rd + (m : Int)) CUb (b := w1.heap.size) (by omega) CU1.out.2.2.2.2.2 FZ hob (by have := hgb1; omega))
        have hwa : w.heap.size + 1 < wa.heap.size := CUa.2.2.2.2.2
        clear CUa CUb kSA kSB
        clear CUd CUe PCd PCda kSE kS1 kSd kSF
        generalize hW5 : ((((wb.setCell ⟨w1.heap.size, 0, none⟩ (.int .i64 (rd + (m : Int)))).setCell ⟨w1.heap.size, 1, none⟩ (.slice (some ⟨gb, 0, none⟩) lb.length cb)).setCell ⟨w1.heap.size, 2, none⟩ (.int .i64 fi)).setCell ⟨w1.heap.size, 3, none⟩ (.int .i64 li)) = W5 at *
        clear hW5
        obtain ⟨CO, FO, OO⟩ := OUT.out
        obtain ⟨B2, P2, F2, Z2, T2, S2⟩ := CO
        have FIN := Lib.hid (fin_cells (rd := rd + (m : Int)) (fi := fi) (li := li) B2 Z2 OO (by first | omega | (simp; omega)) hgb1)
        have o0 := FO 0
        have o1 := FO 1
        have o2 := FO 2
        have o3 := FO 3
        have r0 := Z2 0
        have r1 := Z2 1
        have r2 := Z2 2
        have r3 := Z2 3
        have t0 := T2 0
        have t1 := T2 1
        have t2 := T2 2
        have t3 := T2 3
        clear B2 P2 F2 Z2 T2 S2 OO FO
        go_wp2_with fail
        obtain ⟨B5, F5, O5⟩ := FIN.out
        clear FIN r0 r1 r2 r3 t0 t1 t2 t3 o0 o1 o2 o3
        generalize ((((W5.setCell ⟨w.heap.size + 1, 0, none⟩ (.int .i64 (rd + (m : Int)))).setCell ⟨w.heap.size + 1, 1, none⟩ (.slice (some ⟨gb, 0, none⟩) lb.length cb)).setCell ⟨w.heap.size + 1, 2, none⟩ (.int .i64 fi)).setCell ⟨w.heap.size + 1, 3, none⟩ (.int .i64 li)) = W6 at *
        have s0 := F5 0
        have s1 := F5 1
        have s2 := F5 2
        have s3 := F5 3
        refine bodyPost_ret (v := .tuple #[.agg #[.int .i64 (rd + (m : Int)), .slice (some ⟨gb, 0, none⟩) lb.length cb, .int .i64 fi, .int .i64 li], .string (d0.extract 0 m)]) ?hr rfl ?_
        case hr => rw [results_cell_tmp rfl]; go_simp
        exact ⟨rd + (m : Int), _, lb, _, rfl, by rw [show min ((m : Int).toNat) k = m by omega], by rw [show min ((m : Int).toNat) k = m by omega]; exact HRO.out lb m d0 hpb (by omega) K4.out, B5, O5, by simp⟩

end Go.Proofs.Ythdhjjbgegcncaa
