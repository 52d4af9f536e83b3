/- Chapter 31, the program's intervals: whether a list agrees with an interval. -/
import Derived.Test.YthdhjjbgegcncaaIvC
import Derived.Test.YthdhjjbgegcncaaIvF
namespace Go.Proofs.Ythdhjjbgegcncaa
open Go.RowKit
set_option linter.unusedVariables false
set_option linter.unusedSimpArgs false

set_option maxRecDepth 100000 in
set_option maxHeartbeats 4000000 in
theorem notagr_any (x y : Int) (u v : Value) (d e : ByteArray) (b : Nat) (w : World) (hu : Byt w u d) (hv : Byt w v e) (hb : Cel w b (.int .i64 y) v) (h1 : 0 ≤ x ∧ x ≤ 1000000) (h2 : d.size ≤ 500000) (h3 : 0 ≤ y ∧ y ≤ 1000000) (h4 : e.size ≤ 500000) :
    Calls Try.prog 61 #[.agg #[.int .i64 x, u], .pointer (some ⟨b, 0, none⟩)] w fun f w' => f = .returned (.bool (!decide (agr (x, d) (y, e)))) ∧ Below w.heap.size w w' := by
  have B0 := Lib.hid ((Below.refl w.heap.size w).alloc (Nat.le_refl _) (.cells #[.int .i64 x, u] 55))
  have C0 := Lib.hid (Cel.new w 55 (.int .i64 x) u)
  have C1 := Lib.hid (hb.below B0.out)
  have HC := Lib.hid (iagrees_any x y u v d e _ (hu.below B0.out) (hv.below B0.out) h1 (by omega) h3 (by omega))
  obtain ⟨g, o, c, rfl, hc⟩ := hu.shape
  obtain ⟨g', o', c', rfl, hc'⟩ := hv.shape
  have q0 := C1.out.c0
  have q1 := C1.out.c1
  have hlt := hb.lt
  clear hu hv hb
  generalize decide (agr (x, d) (y, e)) = q at HC ⊢
  go_enter Try.func61, Try.ntmps61
  go_wp2_with fail
  refine HC.out.mono ?_
  rintro f w2 ⟨rfl, hb2⟩
  have B2 := Lib.hid (B0.out.trans (hb2.mono B0.out.size))
  clear hb2
  go_wp2_with fail
  go_ret
  exact ⟨rfl, B2.out⟩

def FoundI (w : World) (l : List Qc) (q : Qc) (e : Ending) (w' : World) : Prop := ∃ z : Int, e = .returned (.int .i64 z) ∧ (0 ≤ z ↔ ∃ p ∈ l, ¬ agr p q) ∧ Below w.heap.size w w'
set_option maxRecDepth 100000 in
set_option maxHeartbeats 4000000 in
theorem idxi_any (B : Nat) (s : Value) (l : List Qc) (y : Int) (v : Value) (e : ByteArray) (b : Nat) (w : World) (h : Ivl w B s l) (hl : l.length ≤ 1000) (hz : ISz l) (hv : Byt w v e) (hb : Cel w b (.int .i64 y) v) (h3 : 0 ≤ y ∧ y ≤ 1000000) (h4 : e.size ≤ 500000) :
    Calls Try.prog 65 #[s, .func (.func 61) #[] #[.pointer (some ⟨b, 0, none⟩)]] w (FoundI w l (y, e)) := by
  have H := Lib.hid h
  have HZ := Lib.hid hz
  have HV := Lib.hid hv
  have HB0 := Lib.hid hb
  obtain ⟨g, c, rfl, hc, hgB, hgw⟩ := h.sl
  clear h hz hv hb
  go_enter Try.func65, Try.ntmps65
  go_wp2_with fail
  go_loopw [8] (fun iv wr => ∃ j : Nat, j ≤ l.length ∧ iv = .int .i64 (j : Int) ∧ Hid (∀ r ∈ l.take j, agr r (y, e)) ∧ Hid (Below w.heap.size w wr)) (fun iv _ => l.length - (intOf iv).toNat)
  case atStart => exact ⟨0, Nat.zero_le _, rfl, Lib.hid (by simp), Below.refl _ _⟩
  case round =>
    obtain ⟨j, hj, rfl, HS, HB⟩ := hrel
    by_cases hlt : j < l.length
    · have hlt' : (j : Int) < (l.length : Int) := by omega
      obtain ⟨u, c0, c1, hy⟩ := (H.out.below HB.out).at j hlt
      have hsz := HZ.out.at j hlt
      have HT := Lib.hid (take_snoc' l j hlt)
      have HM : Hid (l[j] ∈ l) := Lib.hid (List.getElem_mem hlt)
      generalize l[j] = p at *
      obtain ⟨x, d⟩ := p
      simp only at c0 c1 hy hsz
      have CN := Lib.hid (notagr_any x y u v d e b wr hy (HV.out.below HB.out) (HB0.out.below HB.out) hsz.1 hsz.2 h3 h4)
      obtain ⟨g1, o1, k1, rfl, hk1⟩ := hy.shape
      clear hy hgw
      by_cases hok : agr (x, d) (y, e)
      · rw [decide_eq_true hok] at CN
        have HS2 : Hid (∀ r ∈ l.take (j + 1), agr r (y, e)) := Lib.hid (by
          rw [HT.out]
          intro r hr
          rcases List.mem_append.1 hr with hr | hr
          · exact HS.out r hr
          · rw [List.mem_singleton.1 hr]; exact hok)
        clear hok
        go_wp2_with fail
        refine CN.out.mono ?_
        rintro f w1 ⟨rfl, hb⟩
        have B1 := Lib.hid (HB.out.trans (hb.mono HB.out.size))
        clear hb c0 c1
        go_wp2_with fail
        go_roundw
        case rel => exact ⟨j + 1, by omega, by go_num, HS2, B1⟩
        case measure => simp [intOf]; omega
      · rw [decide_eq_false hok] at CN
        have HE : Hid (0 ≤ (j : Int) ↔ ∃ r ∈ l, ¬ agr r (y, e)) := Lib.hid ⟨fun _ => ⟨_, HM.out, hok⟩, fun _ => by omega⟩
        clear hok
        go_wp2_with fail
        refine CN.out.mono ?_
        rintro f w1 ⟨rfl, hb⟩
        have B1 := Lib.hid (HB.out.trans (hb.mono HB.out.size))
        clear hb c0 c1
        go_wp2_with fail
        go_ret
        exact ⟨_, rfl, HE.out, B1.out⟩
    · have hlt' : ¬ (j : Int) < (l.length : Int) := by omega
      rw [List.take_of_length_le (by omega)] at HS
      go_wp2_with fail
      go_ret
      exact ⟨-1, rfl, ⟨fun h => absurd h (by decide), fun ⟨r, hr, hn⟩ => absurd (HS.out r hr) hn⟩, HB.out⟩

set_option maxRecDepth 100000 in
set_option maxHeartbeats 4000000 in
theorem hasi_any (B : Nat) (s : Value) (l : List Qc) (y : Int) (v : Value) (e : ByteArray) (b : Nat) (w : World) (h : Ivl w B s l) (hl : l.length ≤ 1000) (hz : ISz l) (hv : Byt w v e) (hb : Cel w b (.int .i64 y) v) (h3 : 0 ≤ y ∧ y ≤ 1000000) (h4 : e.size ≤ 500000) :
    Calls Try.prog 60 #[s, .func (.func 61) #[] #[.pointer (some ⟨b, 0, none⟩)]] w fun f w' => f = .returned (.bool (decide (∃ p ∈ l, ¬ agr p (y, e)))) ∧ Below w.heap.size w w' := by
  have CI := Lib.hid (idxi_any B s l y v e b w h hl hz hv hb h3 h4)
  obtain ⟨g, c, rfl, hc, hgB, hgw⟩ := h.sl
  clear h hz hv hb
  go_enter Try.func60, Try.ntmps60
  go_wp2_with fail
  refine CI.out.mono ?_
  rintro f w1 ⟨z, rfl, hz, hb⟩
  have HZ : Hid (decide (0 ≤ z) = decide (∃ p ∈ l, ¬ agr p (y, e))) := Lib.hid (decide_eq_decide.2 hz)
  have B1 := Lib.hid hb
  clear hz hb
  go_wp2_with fail
  go_ret
  exact ⟨ret_bool HZ.out, B1.out⟩

set_option maxRecDepth 100000 in
set_option maxHeartbeats 4000000 in
theorem lagree_any (B : Nat) (s : Value) (l : List Qc) (y : Int) (v : Value) (e : ByteArray) (w : World) (h : Ivl w B s l) (hl : l.length ≤ 1000) (hz : ISz l) (hv : Byt w v e) (h3 : 0 ≤ y ∧ y ≤ 1000000) (h4 : e.size ≤ 500000) :
    Calls Try.prog 56 #[s, .agg #[.int .i64 y, v]] w fun f w' => f = .returned (.bool (decide (∀ p ∈ l, agr p (y, e)))) ∧ Below w.heap.size w w' := by
  have B0 := Lib.hid ((Below.refl w.heap.size w).alloc (Nat.le_refl _) (.cells #[.int .i64 y, v] 55))
  have CI := Lib.hid (hasi_any B s l y v e w.heap.size _ (h.below B0.out) hl hz (hv.below B0.out) (Cel.new w 55 (.int .i64 y) v) h3 h4)
  have HQ : Hid ((!decide (∃ p ∈ l, ¬ agr p (y, e))) = decide (∀ p ∈ l, agr p (y, e))) := Lib.hid (by
    rw [Bool.eq_iff_iff, Bool.not_eq_true', decide_eq_false_iff_not, decide_eq_true_eq]
    exact ⟨fun k p hp => Decidable.byContradiction fun hn => k ⟨p, hp, hn⟩, fun k ⟨p, hp, hn⟩ => hn (k p hp)⟩)
  rw [← HQ.out]
  generalize decide (∃ p ∈ l, ¬ agr p (y, e)) = q at CI ⊢
  obtain ⟨g, c, rfl, hc, hgB, hgw⟩ := h.sl
  obtain ⟨g', o', c', rfl, hc'⟩ := hv.shape
  clear h hz hv HQ
  go_enter Try.func56, Try.ntmps56
  go_wp2_with fail
  refine CI.out.mono ?_
  rintro f w1 ⟨rfl, hb⟩
  have B1 := Lib.hid (B0.out.trans (hb.mono B0.out.size))
  clear hb
  go_wp2_with fail
  go_ret
  exact ⟨rfl, B1.out⟩
end Go.Proofs.Ythdhjjbgegcncaa
