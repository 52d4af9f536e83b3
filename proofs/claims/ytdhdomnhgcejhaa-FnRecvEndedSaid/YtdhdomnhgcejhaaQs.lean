/- What laws share: sameRecv at equal streams; recvHas. -/
import Derived.Test.YtdhdomnhgcejhaaQc
import Derived.Test.YtdhdomnhgcejhaaRcMath2
import Derived.BigQuiet
import Derived.Deep.QuietTactic
import Derived.Deep.Draws
namespace Go.Proofs.Ytdhdomnhgcejhaa
open Go.RowKit
set_option linter.unusedVariables false
set_option linter.unusedSimpArgs false

/-- A row of pieces; nil where it is empty, too. -/
def Pcn (w : World) (v : Value) (l : List Pc) : Prop :=
  ∃ (a : Option Addr) (c : Nat), v = .slice a l.length c ∧ (l ≠ [] → ∃ g o, a = some ⟨g, o, none⟩ ∧ ∀ i, i < l.length → w.cell? ⟨g, o + i * 2, none⟩ = some (.int .i64 (l.getD i pc0).1) ∧ w.cell? ⟨g, o + i * 2 + 1, none⟩ = some (.string (l.getD i pc0).2))
theorem Pcs.n {w : World} {v : Value} {l : List Pc} (h : Pcs w v l) : Pcn w v l := by
  obtain ⟨g, o, c, rfl, _, hc⟩ := h
  exact ⟨_, c, rfl, fun _ => ⟨g, o, rfl, hc⟩⟩
theorem Pcn.nil (w : World) : Pcn w (.slice none 0 0) [] := ⟨none, 0, rfl, fun h => absurd rfl h⟩
theorem Pcn.below {w w' : World} {v : Value} {l : List Pc} (h : Pcn w v l) (hb : Below w.heap.size w w') : Pcn w' v l := by
  obtain ⟨a, c, rfl, hc⟩ := h
  refine ⟨a, c, rfl, fun hn => ?_⟩
  obtain ⟨g, o, e, hk⟩ := hc hn
  exact ⟨g, o, e, fun i hi => ⟨(hb.cell (World.block_lt_of_cell? w _ (hk i hi).1)).trans (hk i hi).1, (hb.cell (World.block_lt_of_cell? w _ (hk i hi).2)).trans (hk i hi).2⟩⟩
/-- A call that says true and leaves alone what was there. -/
def YesR (w : World) (e : Ending) (w' : World) : Prop := e = .returned (.bool true) ∧ Below w.heap.size w w'
set_option maxRecDepth 100000 in
set_option maxHeartbeats 4000000 in
theorem samerv_any (rd fi li : Int) (u v : Value) (l : List Pc) (w : World) (h1 : Pcn w u l) (h2 : Pcn w v l) (hl : l.length ≤ 1048576) :
    Calls Try.prog 25 #[.agg #[.int .i64 rd, u, .int .i64 fi, .int .i64 li], .agg #[.int .i64 rd, v, .int .i64 fi, .int .i64 li]] w (YesR w) := by
  obtain ⟨a1, c1, rfl, h1⟩ := h1
  obtain ⟨a2, c2, rfl, h2⟩ := h2
  have H1 := Lib.hid h1
  have H2 := Lib.hid h2
  clear h1 h2
  have e1 : (w.alloc (.cells #[.int .i64 rd, .slice a1 l.length c1, .int .i64 fi, .int .i64 li] 30)).heap.size = w.heap.size + 1 := by simp
  have BA := (Below.refl w.heap.size w).alloc (Nat.le_refl _) (.cells #[.int .i64 rd, .slice a1 l.length c1, .int .i64 fi, .int .i64 li] 30)
  have B0 := Lib.hid (BA.alloc (by simp) (.cells #[.int .i64 rd, .slice a2 l.length c2, .int .i64 fi, .int .i64 li] 30))
  have R1 := Lib.hid ((Frm.new w 30 [.int .i64 rd, .slice a1 l.length c1, .int .i64 fi, .int .i64 li]).below ((Below.refl _ _).alloc (Nat.le_refl _) (.cells #[.int .i64 rd, .slice a2 l.length c2, .int .i64 fi, .int .i64 li] 30)) (by simp))
  have R2 := Lib.hid (Frm.new (w.alloc (.cells #[.int .i64 rd, .slice a1 l.length c1, .int .i64 fi, .int .i64 li] 30)) 30 [.int .i64 rd, .slice a2 l.length c2, .int .i64 fi, .int .i64 li])
  rw [e1] at R2
  clear e1 BA
  obtain ⟨W0, hW0⟩ : ∃ W0, (w.alloc (.cells #[.int .i64 rd, .slice a1 l.length c1, .int .i64 fi, .int .i64 li] 30)).alloc (.cells #[.int .i64 rd, .slice a2 l.length c2, .int .i64 fi, .int .i64 li] 30) = W0 := ⟨_, rfl⟩
  change Hid (Below w.heap.size w ((w.alloc (.cells #[.int .i64 rd, .slice a1 l.length c1, .int .i64 fi, .int .i64 li] 30)).alloc (.cells #[.int .i64 rd, .slice a2 l.length c2, .int .i64 fi, .int .i64 li] 30))) at B0
  change Hid (Frm ((w.alloc (.cells #[.int .i64 rd, .slice a1 l.length c1, .int .i64 fi, .int .i64 li] 30)).alloc (.cells #[.int .i64 rd, .slice a2 l.length c2, .int .i64 fi, .int .i64 li] 30)) w.heap.size [.int .i64 rd, .slice a1 l.length c1, .int .i64 fi, .int .i64 li]) at R1
  change Hid (Frm ((w.alloc (.cells #[.int .i64 rd, .slice a1 l.length c1, .int .i64 fi, .int .i64 li] 30)).alloc (.cells #[.int .i64 rd, .slice a2 l.length c2, .int .i64 fi, .int .i64 li] 30)) (w.heap.size + 1) [.int .i64 rd, .slice a2 l.length c2, .int .i64 fi, .int .i64 li]) at R2
  rw [hW0] at B0 R1 R2
  have HW0 := Lib.hid hW0
  clear hW0
  go_enter Try.func25, Try.ntmps25
  go_wp2_with fail
  rw [HW0.out]
  have q0 := R1.out 0
  have q1 := R1.out 1
  have q2 := R1.out 2
  have q3 := R1.out 3
  have r0 := R2.out 0
  have r1 := R2.out 1
  have r2 := R2.out 2
  have r3 := R2.out 3
  go_wp2_with fail
  clear q0 q1 q2 q3 r0 r1 r2 r3
  go_loopw [5] (fun iv wr => ∃ j : Nat, j ≤ l.length ∧ iv = .int .i64 (j : Int) ∧ Hid (Below w.heap.size w wr) ∧ Hid (Frm wr w.heap.size [.int .i64 rd, .slice a1 l.length c1, .int .i64 fi, .int .i64 li]) ∧ Hid (Frm wr (w.heap.size + 1) [.int .i64 rd, .slice a2 l.length c2, .int .i64 fi, .int .i64 li])) (fun iv _ => l.length - (intOf iv).toNat)
  case atStart => exact ⟨0, Nat.zero_le _, rfl, B0, R1, R2⟩
  case round =>
    obtain ⟨j, hj, rfl, HB, HR1, HR2⟩ := hrel
    have q0 := HR1.out 0
    have q1 := HR1.out 1
    have r0 := HR2.out 0
    have r1 := HR2.out 1
    have hs1 : w.heap.size < wr.heap.size := World.block_lt_of_cell? wr _ q0
    have hs2 : w.heap.size + 1 < wr.heap.size := World.block_lt_of_cell? wr _ r0
    by_cases hlt : j < l.length
    · have hlt' : (j : Int) < (l.length : Int) := by omega
      obtain ⟨g1, o1, rfl, hc⟩ := H1.out (by rintro rfl; simp at hlt)
      obtain ⟨g2, o2, rfl, hc'⟩ := H2.out (by rintro rfl; simp at hlt)
      have d0 := (HB.out.cell (World.block_lt_of_cell? w _ (hc j hlt).1)).trans (hc j hlt).1
      have d1 := (HB.out.cell (World.block_lt_of_cell? w _ (hc j hlt).2)).trans (hc j hlt).2
      have e0 := (HB.out.cell (World.block_lt_of_cell? w _ (hc' j hlt).1)).trans (hc' j hlt).1
      have e1 := (HB.out.cell (World.block_lt_of_cell? w _ (hc' j hlt).2)).trans (hc' j hlt).2
      clear hc hc'
      generalize l.getD j pc0 = p at *
      obtain ⟨y, d⟩ := p
      simp only at d0 d1 e0 e1
      go_wp2_with fail
      go_quiet (fail)
      have HB2 := Lib.hid (below_drewN' HB.out nq)
      have HR3 := Lib.hid (HR1.out.below (below_drewN' (Below.refl _ _) nq) hs1)
      have HR4 := Lib.hid (HR2.out.below (below_drewN' (Below.refl _ _) nq) hs2)
      go_wp2_with fail
      go_roundw
      case rel => exact ⟨j + 1, by omega, by go_num, HB2, HR3, HR4⟩
      case measure => simp [intOf]; omega
    · have hlt' : ¬ (j : Int) < (l.length : Int) := by omega
      have hd := decide_eq_false hlt'
      go_wp2_with fail
      go_ret
      exact ⟨rfl, HB.out⟩

/-- None of the first j pieces has the offset. -/
def NoPin (l : List Qc) (at' j : Nat) : Prop := ∀ i, i < j → i < l.length → ¬ pin (l.getD i pc0) at'
theorem pat_in : ∀ {l : List Qc} {at' j : Nat}, j < l.length → pin (l.getD j pc0) at' → 0 ≤ pat l at'
  | [], at', j, h, _ => by simp at h
  | p :: t, at', 0, _, hp => by
    unfold pat
    rw [if_pos (by simpa using hp)]
    exact (dat_bd _ _).1
  | p :: t, at', j + 1, h, hp => by
    unfold pat
    split
    · exact (dat_bd _ _).1
    · exact pat_in (j := j) (by simpa using h) (by simpa using hp)
theorem pat_no : ∀ {l : List Qc} {at' : Nat}, NoPin l at' l.length → ¬ 0 ≤ pat l at'
  | [], at', _ => by simp [pat]
  | p :: t, at', h => by
    unfold pat
    rw [if_neg (by have := h 0 (by simp) (by simp); simpa using this)]
    exact pat_no (fun i hi _ => by have := h (i + 1) (by simpa using hi) (by simpa using hi); simpa using this)
set_option maxRecDepth 100000 in
set_option maxHeartbeats 4000000 in
theorem rvhas_any (rd fi li : Int) (v : Value) (l : List Pc) (at' : Nat) (w : World) (h : Pcn w v l) (hl : l.length ≤ 1048576) (ha : at' ≤ 1000) (hbd : ∀ p ∈ l, -1000000 ≤ p.1 ∧ p.1 ≤ 1000000 ∧ p.2.size ≤ 1000000) :
    Calls Try.prog 26 #[.agg #[.int .i64 rd, v, .int .i64 fi, .int .i64 li], .int .i64 (at' : Int)] w fun e w' => e = .returned (.bool (decide (0 ≤ pat l at' ∨ (at' : Int) < rd))) ∧ Below w.heap.size w w' := by
  obtain ⟨a, c, rfl, h1⟩ := h
  have H1 := Lib.hid h1
  have HBD : Hid (∀ j, j < l.length → -1000000 ≤ (l.getD j pc0).1 ∧ (l.getD j pc0).1 ≤ 1000000 ∧ (l.getD j pc0).2.size ≤ 1000000) := Lib.hid fun j hj => by
    have e : l.getD j pc0 = l[j] := by rw [List.getD_eq_getElem?_getD, List.getElem?_eq_getElem hj]; rfl
    rw [e]; exact hbd _ (List.getElem_mem hj)
  clear h1 hbd
  have R0 := Lib.hid (Frm.new w 30 [.int .i64 rd, .slice a l.length c, .int .i64 fi, .int .i64 li])
  have B0 : Hid (Below w.heap.size w (w.alloc (.cells #[.int .i64 rd, .slice a l.length c, .int .i64 fi, .int .i64 li] 30))) := Lib.hid ((Below.refl _ _).alloc (Nat.le_refl _) _)
  go_enter Try.func26, Try.ntmps26
  go_wp2_with fail
  obtain ⟨W0, hW0⟩ : ∃ W0, W0 = w.alloc (.cells #[.int .i64 rd, .slice a l.length c, .int .i64 fi, .int .i64 li] 30) := ⟨_, rfl⟩
  change Hid (Frm (w.alloc (.cells #[.int .i64 rd, .slice a l.length c, .int .i64 fi, .int .i64 li] 30)) w.heap.size [.int .i64 rd, .slice a l.length c, .int .i64 fi, .int .i64 li]) at R0
  rw [← hW0] at R0 B0 ⊢
  clear hW0
  go_loopw [5] (fun iv wr => ∃ j : Nat, j ≤ l.length ∧ iv = .int .i64 (j : Int) ∧ Hid (NoPin l at' j) ∧ Hid (Below w.heap.size w wr) ∧ Hid (Frm wr w.heap.size [.int .i64 rd, .slice a l.length c, .int .i64 fi, .int .i64 li])) (fun iv _ => l.length - (intOf iv).toNat)
  case atStart => exact ⟨0, Nat.zero_le _, rfl, Lib.hid (fun i hi => absurd hi (Nat.not_lt_zero _)), B0, R0⟩
  case round =>
    obtain ⟨j, hj, rfl, HN, HB, HR1⟩ := hrel
    have q0 := HR1.out 0
    have q1 := HR1.out 1
    have hs1 : w.heap.size < wr.heap.size := World.block_lt_of_cell? wr _ q0
    by_cases hlt : j < l.length
    · have hlt' : (j : Int) < (l.length : Int) := by omega
      obtain ⟨g1, o1, rfl, hc⟩ := H1.out (by rintro rfl; simp at hlt)
      have d0 := (HB.out.cell (World.block_lt_of_cell? w _ (hc j hlt).1)).trans (hc j hlt).1
      have d1 := (HB.out.cell (World.block_lt_of_cell? w _ (hc j hlt).2)).trans (hc j hlt).2
      have hb := HBD.out j hlt
      have HIN := Lib.hid (fun hp => pat_in (at' := at') hlt hp)
      have HNS : Hid (¬ pin (l.getD j pc0) at' → NoPin l at' (j + 1)) := Lib.hid fun hp i hi hl => by
        by_cases e : i = j
        · subst e; exact hp
        · exact HN.out i (by omega) hl
      clear hc
      generalize l.getD j pc0 = p at *
      obtain ⟨y, d⟩ := p
      simp only at d0 d1 hb
      have hw : IntKind.i64.wrap (y + (d.size : Int)) = y + (d.size : Int) := IntWalk.i64_in _ (by omega)
      by_cases k1 : y ≤ (at' : Int)
      · have f1 : decide (y ≤ (at' : Int)) = true := decide_eq_true k1
        by_cases k2 : (at' : Int) < y + (d.size : Int)
        · have f2 : decide ((at' : Int) < y + (d.size : Int)) = true := decide_eq_true k2
          have HF := Lib.hid (decide_eq_true (Or.inl (HIN.out ⟨k1, k2⟩) : 0 ≤ pat l at' ∨ (at' : Int) < rd))
          go_wp2_with fail
          go_quiet (fail)
          go_wp2_with fail
          go_ret
          exact ⟨ret_bool HF.out.symm, below_drewN' HB.out _⟩
        · have f2 : decide ((at' : Int) < y + (d.size : Int)) = false := decide_eq_false k2
          have HN2 := Lib.hid (HNS.out (fun h => k2 h.2))
          go_wp2_with fail
          go_quiet (fail)
          have HB2 := Lib.hid (below_drewN' HB.out nq)
          have HR3 := Lib.hid (HR1.out.below (below_drewN' (Below.refl _ _) nq) hs1)
          go_wp2_with fail
          go_roundw
          case rel => exact ⟨j + 1, by omega, by go_num, HN2, HB2, HR3⟩
          case measure => simp [intOf]; omega
      · have f1 : decide (y ≤ (at' : Int)) = false := decide_eq_false k1
        have HN2 := Lib.hid (HNS.out (fun h => k1 h.1))
        go_wp2_with fail
        go_quiet (fail)
        have HB2 := Lib.hid (below_drewN' HB.out nq)
        have HR3 := Lib.hid (HR1.out.below (below_drewN' (Below.refl _ _) nq) hs1)
        go_wp2_with fail
        go_roundw
        case rel => exact ⟨j + 1, by omega, by go_num, HN2, HB2, HR3⟩
        case measure => simp [intOf]; omega
    · have hlt' : ¬ (j : Int) < (l.length : Int) := by omega
      have HF : Hid (decide ((at' : Int) < rd) = decide (0 ≤ pat l at' ∨ (at' : Int) < rd)) := Lib.hid (by
        have hn := pat_no (l := l) (at' := at') (by rw [show l.length = j by omega]; exact HN.out)
        congr 1
        exact propext ⟨.inr, fun h => h.elim (fun k => absurd k hn) id⟩)
      go_wp2_with fail
      go_ret
      exact ⟨ret_bool (by rw [HF.out]; simp), HB.out⟩

end Go.Proofs.Ytdhdomnhgcejhaa
