/- Chapter 11, the model: what can be derived. -/
import Derived.Test.YtakfohcnclmkbabSBv
import Derived.Laws.OwnMore
import Derived.StillTailTactics
namespace Go.Proofs.Ytakfohcnclmkbab
open Go.RowKit
set_option linter.unusedVariables false
set_option linter.unusedSimpArgs false

/-- Twenty-one bools of the call's own. -/
def Row21 (w : World) (B : Nat) (v : Value) (h : List Bool) : Prop := h.length = 21 ∧ w.ownsRow B 4 1 v 21 (h.map Value.bool)
theorem map_setB (xs : List Bool) (j : Nat) (x : Bool) : (xs.map Value.bool).set j (.bool x) = (xs.set j x).map Value.bool := by rw [List.map_set]
theorem Row21.at {w : World} {B g c : Nat} {h : List Bool} (r : Row21 w B (.slice (some ⟨g, 0, none⟩) 21 c) h) (j : Nat) (hj : j < 21) : w.cell? ⟨g, j, none⟩ = some (.bool (h.getD j false)) ∧ w.frozen? ⟨g, j, none⟩ = false ∧ B ≤ g := by
  obtain ⟨hx, ho⟩ := r
  have hcl := ho.cellAt j (by omega)
  rw [List.getElem?_map, List.getElem?_eq_getElem (by omega)] at hcl
  refine ⟨?_, ho.frozenAt j, (ho.lt g rfl).1⟩
  rw [hcl, List.getD_eq_getElem?_getD, List.getElem?_eq_getElem (by omega)]; rfl
theorem Row21.set {w : World} {B g c : Nat} {h : List Bool} (r : Row21 w B (.slice (some ⟨g, 0, none⟩) 21 c) h) (j : Nat) : Row21 (w.setCell ⟨g, j, none⟩ (.bool true)) B (.slice (some ⟨g, 0, none⟩) 21 c) (h.set j true) := by
  obtain ⟨hx, ho⟩ := r
  have := (ho.stored j (.bool true)).1
  rw [map_setB] at this
  exact ⟨by simpa using hx, this⟩
theorem Row21.below {w w' : World} {B : Nat} {v : Value} {h : List Bool} (r : Row21 w B v h) (hb : Below w.heap.size w w') : Row21 w' B v h := ⟨r.1, own_below r.2 hb⟩

theorem try_infoBool : (Try.prog.info? 4).map (fun i => (i.zero, i.size, i.bytes)) = some (some (.bool false), 1, 1) := by kernel_rfl
def DvPost (w : World) (h : List Bool) (e : Ending) (w' : World) : Prop := ∃ g, e = .returned (.slice (some ⟨g, 0, none⟩) 21 21) ∧ Below w.heap.size w w' ∧ Row21 w' w.heap.size (.slice (some ⟨g, 0, none⟩) 21 21) h
theorem addA_take {h : List Bool} {l : List Int} {j : Nat} (hj : j < l.length) : addA h (l.take (j + 1)) = (addA h (l.take j)).set (l.getD j 0).toNat true := by
  rw [(takeI l j hj).1, addA_snoc]

set_option maxRecDepth 100000 in
set_option maxHeartbeats 1000000 in
theorem sderive_any (v u : Value) (l : List Bx) (k : List Int) (skip : Int) (w : World) (h : Bxs w v l) (hk : Ints w u k) (hl : bsok l = true) (hkk : kok k = true) :
    Calls Try.prog 35 #[v, u, .int .i64 skip] w (DvPost w (hasA l k skip)) := by
  obtain ⟨i0, hi, hz0, hz1, hz2⟩ := info_parts try_infoBool
  have HI := Lib.hid hi
  have hl10 := (bsok_iff.1 hl).1
  have hk20 := (kok_iff.1 hkk).1
  obtain ⟨a, c, rfl, h⟩ := h
  obtain ⟨ka, kc, rfl, hk⟩ := hk
  have HC := Lib.hid h
  have HK := Lib.hid hk
  have HL := Lib.hid (bsok_iff.1 hl).2
  have HKK := Lib.hid (kok_iff.1 hkk).2
  clear h hk hl hkk hi
  go_enter Try.func35, Try.ntmps35
  go_wp2_with (at_make; refine wpList_make_full _ rfl _ _ 50 rfl w.heap.size 4 i0 (.bool false) 1 Try.underlying50 HI.out hz0 hz1 .i64 .i64 _ _ 21 rfl rfl rfl rfl (by rw [hz2]; omega) (by unfold maxLen; omega) (by simp) ?_)
  intro w1 hown hgrow
  have hb0 : Below w.heap.size w w1 := (Below.refl _ _).grown hgrow (Nat.le_refl _) (fun k hk => by cases hk)
  have B1 := Lib.hid hb0
  have R1 : Hid (Row21 w1 w.heap.size (.slice (some ⟨w.heap.size, 0, none⟩) 21 21) (List.replicate 21 false)) := by
    refine Lib.hid ⟨by simp, ?_⟩
    have hinit : (madeCells #[Value.bool false] 21).toList = (List.replicate 21 false).map Value.bool := by
      rw [toList_madeCells_one]; simp
    rw [hinit] at hown
    exact hown
  clear hown hgrow hb0
  go_wp2_with fail
  go_loopw [8] (fun iv wr => ∃ j : Nat, j ≤ k.length ∧ iv = .int .i64 (j : Int) ∧ Hid (Below w.heap.size w wr) ∧ Hid (Row21 wr w.heap.size (.slice (some ⟨w.heap.size, 0, none⟩) 21 21) (addA (List.replicate 21 false) (k.take j)))) (fun iv _ => k.length - (intOf iv).toNat)
  case atStart => exact ⟨0, Nat.zero_le _, rfl, B1, R1⟩
  case round =>
    obtain ⟨j, hj, rfl, HB, HR⟩ := hrel
    by_cases hlt : j < k.length
    · have hlt' : (j : Int) < (k.length : Int) := by omega
      obtain ⟨g, o, rfl, hc⟩ := HK.out (by rintro rfl; simp at hlt)
      have hcj := hc j hlt
      have e1 : wr.cell? ⟨g, o + j, none⟩ = some (.int .i64 (k.getD j 0)) := (HB.out.cell (World.block_lt_of_cell? w _ hcj)).trans hcj
      have hx := aok_iff.1 (HKK.out _ (takeI k j hlt).2)
      have HT := Lib.hid (addA_take (h := List.replicate 21 false) hlt)
      clear hc hcj
      generalize k.getD j 0 = x at *
      generalize addA (List.replicate 21 false) (k.take j) = hs at *
      obtain ⟨e2, hf, _⟩ := HR.out.at x.toNat (by omega)
      have HB2 : Hid (Below w.heap.size w (wr.setCell ⟨w.heap.size, x.toNat, none⟩ (.bool true))) := Lib.hid (HB.out.setCell (p := ⟨w.heap.size, x.toNat, none⟩) (by show _ ≤ _; omega) _)
      have HR2 := Lib.hid (HR.out.set x.toNat)
      obtain ⟨x1, x2⟩ := hx
      have x3 : 0 ≤ x := by omega
      have x4 : x < 21 := by omega
      go_wp2_with fail
      go_roundw
      case rel => exact ⟨j + 1, by omega, by go_num, HB2, by rw [HT.out]; exact HR2⟩
      case measure => simp [intOf]; omega
    · have hlt' : ¬ (j : Int) < (k.length : Int) := by omega
      have hR := HR.out
      rw [List.take_of_length_le (by omega)] at hR
      have HR0 : Hid (Row21 wr w.heap.size (.slice (some ⟨w.heap.size, 0, none⟩) 21 21) (has0 k)) := Lib.hid hR
      clear hR HR R1 B1
      go_wp2_with fail
      go_loopw [9] (fun iv wr => ∃ r : Nat, r ≤ l.length + 1 ∧ iv = .int .i64 (r : Int) ∧ Hid (Below w.heap.size w wr) ∧ Hid (Row21 wr w.heap.size (.slice (some ⟨w.heap.size, 0, none⟩) 21 21) (passN skip l r (has0 k)))) (fun iv _ => l.length + 1 - (intOf iv).toNat)
      case atStart => exact ⟨0, Nat.zero_le _, rfl, HB, HR0⟩
      case round =>
        clear HB HR0
        obtain ⟨r, hr, rfl, HB, HR⟩ := hrel
        have HSL : Hid ((passN skip l r (has0 k)).length = 21) := Lib.hid ((passN_len skip l r (has0 k)).trans (has0_len k))
        by_cases hlt2 : r ≤ l.length
        · have hlt2' : (r : Int) ≤ (l.length : Int) := by omega
          have HTR : Hid (passN skip l (r + 1) (has0 k) = passA skip (passN skip l r (has0 k)) l) := Lib.hid rfl
          generalize passN skip l r (has0 k) = h1 at *
          go_wp2_with fail
          go_loopw [10] (fun iv wr => ∃ i : Nat, i ≤ l.length ∧ iv = .int .i64 (i : Int) ∧ Hid (Below w.heap.size w wr) ∧ Hid (Row21 wr w.heap.size (.slice (some ⟨w.heap.size, 0, none⟩) 21 21) (passA skip h1 (l.take i)))) (fun iv _ => l.length - (intOf iv).toNat)
          case atStart => exact ⟨0, Nat.zero_le _, rfl, HB, HR⟩
          case round =>
            clear HB HR
            obtain ⟨i, hi, rfl, HB, HR⟩ := hrel
            by_cases hil : i < l.length
            · have hil' : (i : Int) < (l.length : Int) := by omega
              obtain ⟨g, o, rfl, hc⟩ := HC.out (by rintro rfl; simp at hil)
              obtain ⟨ra, rc, hf⟩ := hc i hil
              have hg := World.block_lt_of_cell? w _ hf.1
              have HT := Lib.hid (takeB l i hil)
              have hbk := bok_iff.1 (HL.out _ (takeB l i hil).2)
              clear hc
              have HS2 : Hid ((passA skip h1 (l.take i)).length = 21) := Lib.hid (by rw [passA_len]; exact HSL.out)
              have HP : Hid (passA skip h1 (l.take (i + 1)) = pass1 skip (passA skip h1 (l.take i)) (l.getD i bxD)) := Lib.hid (by rw [(takeB l i hil).1, passA_snoc])
              generalize passA skip h1 (l.take i) = h2 at *
              generalize l.getD i bxD = b at *
              obtain ⟨key, ins⟩ := b
              obtain ⟨c0, c1, hin⟩ := hf
              simp only at c0 c1 hin hbk
              obtain ⟨hk1, hn1, hn4, hat⟩ := hbk
              have HI2 := Lib.hid hin.cells
              have HAT := Lib.hid hat
              obtain ⟨x1, x2⟩ := aok_iff.1 hk1
              have x3 : 0 ≤ key := by omega
              have x4 : key < 21 := by omega
              have C0 := Lib.hid c0
              have C1 := Lib.hid c1
              clear c0 c1 hin hat hk1
              go_wp2_with fail
              go_loopw [11] (fun iv wr => ∃ q : Nat, q ≤ ins.length ∧ iv = .int .i64 (q : Int) ∧ (0 < q → opn skip h2 (key, ins) = true) ∧ Hid (Below w.heap.size w wr) ∧ Hid (Row21 wr w.heap.size (.slice (some ⟨w.heap.size, 0, none⟩) 21 21) (addA h2 (ins.take q)))) (fun iv _ => ins.length - (intOf iv).toNat)
              case atStart => exact ⟨0, Nat.zero_le _, rfl, by simp, HB, HR⟩
              case round =>
                clear HB HR
                obtain ⟨q, hq, rfl, hopn, HB, HR⟩ := hrel
                have d0 := (HB.out.cell (p := ⟨g, o + i * 2, none⟩) hg).trans C0.out
                have d1 := (HB.out.cell (p := ⟨g, o + i * 2 + 1, none⟩) hg).trans C1.out
                obtain ⟨e0, f0, _⟩ := HR.out.at key.toNat (by omega)
                by_cases hql : q < ins.length
                · have hql' : (q : Int) < (ins.length : Int) := by omega
                  cases hop : opn skip h2 (key, ins) with
                  | false =>
                    have hq0 : q = 0 := by
                      cases q with
                      | zero => rfl
                      | succ q => have := hopn (by omega); rw [hop] at this; cases this
                    subst hq0
                    have HOP := Lib.hid hop
                    have HEND : Hid (Row21 wr w.heap.size (.slice (some ⟨w.heap.size, 0, none⟩) 21 21) (passA skip h1 (l.take (i + 1)))) := by
                      rw [HP.out]; unfold pass1; rw [hop]; exact HR
                    unfold opn at hop
                    simp only [List.take_zero, addA_nil] at e0
                    clear hopn
                    simp only at hop
                    cases hgd : h2.getD key.toNat false with
                    | false =>
                      rw [hgd] at e0
                      clear hop hgd
                      go_wp2_with fail
                      go_roundw
                      case rel => exact ⟨i + 1, by omega, by go_num, HB, HEND⟩
                      case measure => simp [intOf]; omega
                    | true =>
                      rw [hgd] at e0 hop
                      have hsk : (key != skip) = false := by simpa using hop
                      clear hop hgd
                      go_wp2_with fail
                      go_roundw
                      case rel => exact ⟨i + 1, by omega, by go_num, HB, HEND⟩
                      case measure => simp [intOf]; omega
                  | true =>
                    have HOP := Lib.hid hop
                    obtain ⟨o1, o2⟩ := opn_iff.1 hop
                    have hsk : (key != skip) = true := by simpa using o2
                    have hkeep : (addA h2 (ins.take q)).getD key.toNat false = true := (at_add (n := key) HS2.out (fun a ha => HAT.out a (List.mem_of_mem_take ha)) (by omega)).2 (.inl o1)
                    rw [hkeep] at e0
                    obtain ⟨g2, o2, rfl, hc2⟩ := HI2.out (by rintro rfl; simp at hql)
                    have hcj := hc2 q hql
                    have e2 : wr.cell? ⟨g2, o2 + q, none⟩ = some (.int .i64 (ins.getD q 0)) := (HB.out.cell (World.block_lt_of_cell? w _ hcj)).trans hcj
                    obtain ⟨y1, y2⟩ := aok_iff.1 (HAT.out _ (takeI ins q hql).2)
                    have HT2 := Lib.hid (addA_take (h := h2) hql)
                    clear hc2 hcj hop o1 hkeep hopn
                    generalize ins.getD q 0 = x at *
                    generalize addA h2 (ins.take q) = h3 at *
                    have y3 : 0 ≤ x := by omega
                    have y4 : x < 21 := by omega
                    obtain ⟨e3, hf3, _⟩ := HR.out.at x.toNat (by omega)
                    have HB2 : Hid (Below w.heap.size w (wr.setCell ⟨w.heap.size, x.toNat, none⟩ (.bool true))) := Lib.hid (HB.out.setCell (p := ⟨w.heap.size, x.toNat, none⟩) (by show _ ≤ _; omega) _)
                    have HR2 := Lib.hid (HR.out.set x.toNat)
                    go_wp2_with fail
                    go_roundw
                    case rel => exact ⟨q + 1, by omega, by go_num, (by intro _; first | trivial | exact HOP.out), HB2, by rw [HT2.out]; exact HR2⟩
                    case measure => simp [intOf]; omega
                · have hql' : ¬ (q : Int) < (ins.length : Int) := by omega
                  have HEND : Hid (Row21 wr w.heap.size (.slice (some ⟨w.heap.size, 0, none⟩) 21 21) (passA skip h1 (l.take (i + 1)))) := by
                    rw [HP.out]; unfold pass1
                    rw [hopn (by omega)]
                    have hR := HR.out
                    rw [List.take_of_length_le (by omega)] at hR
                    exact Lib.hid hR
                  clear hopn
                  go_wp2_with fail
                  go_roundw
                  case rel => exact ⟨i + 1, by omega, by go_num, HB, HEND⟩
                  case measure => simp [intOf]; omega
            · have hil' : ¬ (i : Int) < (l.length : Int) := by omega
              have hR := HR.out
              rw [List.take_of_length_le (by omega)] at hR
              have HR3 := Lib.hid hR
              clear hR HR
              go_wp2_with fail
              go_roundw
              case rel => exact ⟨r + 1, by omega, by go_num, HB, by rw [HTR.out]; exact HR3⟩
              case measure => simp [intOf]; omega
        · have hlt2' : ¬ (r : Int) ≤ (l.length : Int) := by omega
          have HE : Hid (passN skip l r (has0 k) = hasA l k skip) := Lib.hid (by show _ = passN skip l (l.length + 1) (has0 k); rw [show r = l.length + 1 by omega])
          go_wp2_with fail
          go_ret
          exact ⟨w.heap.size, rfl, HB.out, by rw [← HE.out]; exact HR.out⟩

end Go.Proofs.Ytakfohcnclmkbab
