/- The program's frameReader: integer, data, ranges. -/
import Derived.Test.YthflokonihegbaaPdMath
import Derived.Test.YthflokonihegbaaIVar
import Derived.Test.YthflokonihegbaaFrm
import Derived.Test.YthflokonihegbaaRgOwn
import Derived.Maps.Range
namespace Go.Proofs.Ythflokonihegbaa
open Go.RowKit
set_option linter.unusedVariables false
set_option linter.unusedSimpArgs false

theorem front_dec (s : ByteArray) (h : dsz s ≠ 0) : dsz (s.extract 0 (dsz s).toNat) = dsz s ∧ dval (s.extract 0 (dsz s).toNat) = dval s ∧ (s.extract 0 (dsz s).toNat).size = (dsz s).toNat := by
  have hle := dsz_le s
  have hnn := dsz_nonneg s
  obtain ⟨h1, h2⟩ := split_at s (dsz s).toNat (by omega)
  have hb : ∀ i, i < (dsz s).toNat → bt (s.extract 0 (dsz s).toNat) i = bt s i := by
    intro i hi
    have := bt_app (s.extract 0 (dsz s).toNat) (cut s (dsz s).toNat) i (by omega)
    rw [← h1] at this
    exact this.symm
  rcases dsz_cases s with k | k | k | k
  · exact absurd k h
  · have b0 := hb 0 (by omega)
    have := dsz_1 k
    have hd : dsz (s.extract 0 (dsz s).toNat) = 1 := by unfold dsz at *; rw [h2] at *; rw [if_neg (by omega)]; omega
    exact ⟨by omega, by rw [dval_1 hd, dval_1 k, b0], h2⟩
  · have b0 := hb 0 (by omega)
    have b1 := hb 1 (by omega)
    have := dsz_2 k
    generalize hp : s.extract 0 (dsz s).toNat = p at *
    have hd : dsz p = 2 := by unfold dsz; rw [if_neg (by omega)]; omega
    exact ⟨by omega, by rw [dval_2 hd, dval_2 k, b0, b1], h2⟩
  · have b0 := hb 0 (by omega)
    have b1 := hb 1 (by omega)
    have b2 := hb 2 (by omega)
    have b3 := hb 3 (by omega)
    have := dsz_4 k
    generalize hp : s.extract 0 (dsz s).toNat = p at *
    have hd : dsz p = 4 := by unfold dsz; rw [if_neg (by omega)]; omega
    exact ⟨by omega, by rw [dval_4 hd, dval_4 k, b0, b1, b2, b3], h2⟩
theorem mini_front (s : ByteArray) : mini (s.extract 0 (dsz s).toNat) = decide (good s) := by
  have hnn := dsz_nonneg s
  by_cases h : dsz s = 0
  · have h2 : ¬ good s := fun g => g.1 h
    rw [decide_eq_false h2, h]
    have hz : (s.extract 0 (0 : Int).toNat).size = 0 := by have := (split_at s 0 (by omega)).2; exact this
    unfold mini
    rw [decide_eq_false_iff_not]
    have : dsz (s.extract 0 (0 : Int).toNat) = 0 := by unfold dsz; rw [if_pos hz]
    omega
  · obtain ⟨h1, h2, h3⟩ := front_dec s h
    unfold mini
    refine decide_eq_decide.2 ?_
    show _ ↔ (dsz s ≠ 0 ∧ dsz s = vlen (dval s))
    rw [h1, h2, h3]
    omega

/-- The reader at block b. -/
def Rdf (w : World) (b : Nat) (st : St) : Prop := Frm w b [.string st.1, .bool st.2] ∧ Thaw w b
theorem grown_set (w : World) (b i : Nat) (v : Value) : w.grownBy (w.setCell ⟨b, i, none⟩ v) (some b) :=
  ⟨rfl, rfl, rfl, by simp, fun k _ hk => Below.heap_setCell _ _ _ k (fun e => hk (by rw [e]))⟩
theorem Rdf.below {w w' : World} {B b : Nat} {st : St} (h : Rdf w b st) (hb : Below B w w') (hlt : b < B) : Rdf w' b st := ⟨h.1.below hb hlt, h.2.below hb hlt⟩
theorem Rdf.lt {w : World} {b : Nat} {st : St} (h : Rdf w b st) : b < w.heap.size := World.block_lt_of_cell? w _ (h.1 0)
def RdfPost (w : World) (b : Nat) (v : Value) (st : St) (e : Ending) (w' : World) : Prop := e = .returned v ∧ Rdf w' b st ∧ w.grownBy w' (some b)

set_option maxRecDepth 100000 in
set_option maxHeartbeats 1000000 in
theorem int_any (b : Nat) (st : St) (w : World) (h : Rdf w b st) (hs : st.1.size ≤ 4194304) : Calls Try.prog 66 #[.pointer (some ⟨b, 0, none⟩)] w (RdfPost w b (.int .i64 (rI st).1) (rI st).2) := by
  obtain ⟨r, fl⟩ := st
  have HR := Lib.hid h
  obtain ⟨hf, ht⟩ := h
  have c0 : w.cell? ⟨b, 0, none⟩ = some (.string r) := hf 0
  have c1 : w.cell? ⟨b, 1, none⟩ = some (.bool fl) := hf 1
  have z0 := ht 0
  have z1 := ht 1
  simp only at hs
  have hsm : r.size ≤ maxLen := by unfold maxLen; omega
  have hle := dsz_le r
  have hnn := dsz_nonneg r
  have HV := Lib.hid (rv_any r w hsm)
  have hms : (r.extract 0 (dsz r).toNat).size ≤ maxLen := by unfold maxLen; simp; omega
  have HM := Lib.hid (imin_any (r.extract 0 (dsz r).toNat) w hms)
  rw [mini_front] at HM
  clear hf ht hsm hms
  by_cases hg : good r
  · rw [decide_eq_true hg] at HM
    have HI := Lib.hid (rI_yes (st := (r, fl)) hg)
    simp only at HI
    have R1 : Hid (Rdf (w.setCell ⟨b, 0, none⟩ (.string (cut r (dsz r).toNat))) b (cut r (dsz r).toNat, fl)) := Lib.hid ⟨HR.out.1.set (i := 0) (by simp) _, HR.out.2.set _ _⟩
    unfold cut at *
    generalize dval r = q at *
    clear hg
    generalize dsz r = n at *
    go_enter Try.func66, Try.ntmps66
    go_wp2_with fail
    refine HV.out.mono ?_
    rintro e w' ⟨rfl, rfl⟩
    go_wp2_with fail
    refine HM.out.mono ?_
    rintro e w' ⟨rfl, rfl⟩
    go_wp2_with fail
    go_ret
    rw [HI.out]
    exact ⟨rfl, R1.out, grown_set _ _ _ _⟩
  · rw [decide_eq_false hg] at HM
    have HI := Lib.hid (rI_no (st := (r, fl)) hg)
    simp only at HI
    have R1 : Hid (Rdf (w.setCell ⟨b, 1, none⟩ (.bool true)) b (r, true)) := Lib.hid ⟨HR.out.1.set (i := 1) (by simp) _, HR.out.2.set _ _⟩
    generalize dval r = q at *
    clear hg
    generalize dsz r = n at *
    go_enter Try.func66, Try.ntmps66
    go_wp2_with fail
    refine HV.out.mono ?_
    rintro e w' ⟨rfl, rfl⟩
    go_wp2_with fail
    refine HM.out.mono ?_
    rintro e w' ⟨rfl, rfl⟩
    go_wp2_with fail
    go_ret
    rw [HI.out]
    exact ⟨rfl, R1.out, grown_set _ _ _ _⟩

set_option maxRecDepth 100000 in
set_option maxHeartbeats 1000000 in
theorem rdata_any (b : Nat) (st : St) (w : World) (h : Rdf w b st) (hs : st.1.size ≤ 4194304) : Calls Try.prog 68 #[.pointer (some ⟨b, 0, none⟩)] w (RdfPost w b (.string (rD st).1) (rD st).2) := by
  have HI := Lib.hid (int_any b st w h hs)
  have hsz := rI_size st
  have hrg := rI_range st
  have HD : Hid (rD st = if (rI st).1 > ((rI st).2.1.size : Int) then (⟨#[]⟩, ((rI st).2.1, true)) else ((rI st).2.1.extract 0 (rI st).1.toNat, (cut (rI st).2.1 (rI st).1.toNat, (rI st).2.2))) := Lib.hid rfl
  generalize rD st = D at *
  generalize rI st = p at *
  obtain ⟨n, r, fl⟩ := p
  simp only at hsz hrg HD HI
  obtain ⟨n0, n1⟩ := hrg
  by_cases hg : n > (r.size : Int)
  · rw [if_pos hg] at HD
    go_enter Try.func68, Try.ntmps68
    go_wp2_with fail
    refine HI.out.mono ?_
    rintro e w1 ⟨rfl, hR, hgr⟩
    have HG := Lib.hid hgr
    have c0 : w1.cell? ⟨b, 0, none⟩ = some (.string r) := hR.1 0
    have c1 : w1.cell? ⟨b, 1, none⟩ = some (.bool fl) := hR.1 1
    have z1 := hR.2 1
    have R1 : Hid (Rdf (w1.setCell ⟨b, 1, none⟩ (.bool true)) b (r, true)) := Lib.hid ⟨hR.1.set (i := 1) (by simp) _, hR.2.set _ _⟩
    clear hR hgr
    go_wp2_with fail
    go_ret
    rw [HD.out]
    exact ⟨rfl, R1.out, World.grownBy.trans HG.out (grown_set _ _ _ _)⟩
  · rw [if_neg hg] at HD
    have hg2 : n ≤ (r.size : Int) := by omega
    have hnt : (n.toNat : Int) = n := by omega
    have hg3 : n.toNat ≤ r.size := by omega
    unfold cut at HD
    go_enter Try.func68, Try.ntmps68
    go_wp2_with fail
    refine HI.out.mono ?_
    rintro e w1 ⟨rfl, hR, hgr⟩
    have HG := Lib.hid hgr
    have c0 : w1.cell? ⟨b, 0, none⟩ = some (.string r) := hR.1 0
    have c1 : w1.cell? ⟨b, 1, none⟩ = some (.bool fl) := hR.1 1
    have z0 := hR.2 0
    have R1 : Hid (Rdf (w1.setCell ⟨b, 0, none⟩ (.string (r.extract n.toNat r.size))) b (r.extract n.toNat r.size, fl)) := Lib.hid ⟨hR.1.set (i := 0) (by simp) _, hR.2.set _ _⟩
    clear hR hgr
    go_wp2_with fail
    go_ret
    rw [HD.out]
    exact ⟨rfl, R1.out, World.grownBy.trans HG.out (grown_set _ _ _ _)⟩

end Go.Proofs.Ythflokonihegbaa
