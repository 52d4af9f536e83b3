/- Chapter 31, the model: l31Bytes, with what it holds. -/
import Derived.Test.YthdhjjbgegcncaaQc
import Derived.Test.YthdhjjbgegcncaaRcMath2
import Derived.Laws.OwnMore
import Derived.StillTailTactics
import Derived.Deep.QuietTactic
import Derived.BigQuiet
namespace Go.Proofs.Ythdhjjbgegcncaa
open Go.RowKit
set_option linter.unusedVariables false
set_option linter.unusedSimpArgs false

/-- Thirty ints of the call's own: f. -/
def Rowf (w : World) (B : Nat) (v : Value) (f : Nat → Int) : Prop := w.ownsRow B 3 1 v 30 ((List.range 30).map fun i => Value.int .i64 (f i))
def RowfPost (w : World) (f : Nat → Int) (e : Ending) (w' : World) : Prop := ∃ g, e = .returned (.slice (some ⟨g, 0, none⟩) 30 30) ∧ Below w.heap.size w w' ∧ Rowf w' w.heap.size (.slice (some ⟨g, 0, none⟩) 30 30) f
theorem Rowf.at {w : World} {B g : Nat} {f : Nat → Int} (h : Rowf w B (.slice (some ⟨g, 0, none⟩) 30 30) f) (j : Nat) (hj : j < 30) : w.cell? ⟨g, j, none⟩ = some (.int .i64 (f j)) ∧ w.frozen? ⟨g, j, none⟩ = false ∧ B ≤ g := by
  have hcl := World.ownsRow.cellAt h j (by omega)
  rw [List.getElem?_map, List.getElem?_range hj] at hcl
  exact ⟨hcl, World.ownsRow.frozenAt h j, (World.ownsRow.lt h g rfl).1⟩
theorem Rowf.congr {w : World} {B : Nat} {v : Value} {f f' : Nat → Int} (h : Rowf w B v f) (hh : ∀ i, i < 30 → f i = f' i) : Rowf w B v f' := by
  have e : ((List.range 30).map fun i => Value.int .i64 (f i)) = (List.range 30).map fun i => Value.int .i64 (f' i) := List.map_congr_left fun i hi => by rw [hh i (List.mem_range.1 hi)]
  unfold Rowf
  rw [← e]; exact h
theorem Rowf.set {w : World} {B g : Nat} {f : Nat → Int} (h : Rowf w B (.slice (some ⟨g, 0, none⟩) 30 30) f) (j : Nat) (hj : j < 30) (x : Int) : Rowf (w.setCell ⟨g, j, none⟩ (.int .i64 x)) B (.slice (some ⟨g, 0, none⟩) 30 30) (fun i => if i = j then x else f i) := by
  have k := (World.ownsRow.stored h j (.int .i64 x)).1
  have e : ((List.range 30).map fun i => Value.int .i64 (f i)).set j (.int .i64 x) = (List.range 30).map fun i => Value.int .i64 (if i = j then x else f i) := by
    apply List.ext_getElem?
    intro n
    rw [List.getElem?_set]
    by_cases hn : j = n
    · subst hn
      rw [if_pos rfl, if_pos (by simpa using hj), List.getElem?_map, List.getElem?_range hj]
      simp
    · rw [if_neg hn, List.getElem?_map, List.getElem?_map]
      by_cases h30 : n < 30
      · rw [List.getElem?_range h30]; simp [Ne.symm hn]
      · rw [List.getElem?_eq_none (by simpa using h30)]; rfl
  unfold Rowf
  rw [← e]; exact k
theorem Rowf.below {w w' : World} {B : Nat} {v : Value} {f : Nat → Int} (h : Rowf w B v f) (hb : Below w.heap.size w w') : Rowf w' B v f := own_below h hb
theorem Rowf.lower {w : World} {B B' g : Nat} {f : Nat → Int} (h : Rowf w B (.slice (some ⟨g, 0, none⟩) 30 30) f) (hB : B' ≤ B) : Rowf w B' (.slice (some ⟨g, 0, none⟩) 30 30) f := by
  obtain ⟨h0, h | ⟨g', c', cur, h1, h2, h3⟩⟩ := h
  · exact ⟨h0, .inl h⟩
  · exact ⟨h0, .inr ⟨g', c', cur, h1, by omega, h3⟩⟩

theorem Rowf.drew {w : World} {B : Nat} {v : Value} {f : Nat → Int} (h : Rowf w B v f) (n : Nat) : Rowf (w.drewN n) B v f := h
theorem Frm.drew {w : World} {b : Nat} {vs : List Value} (h : Frm w b vs) (n : Nat) : Frm (w.drewN n) b vs := h

set_option maxRecDepth 100000 in
set_option maxHeartbeats 1000000 in
theorem sbytesf_any (v : Value) (l : List Pc) (rd fi li : Int) (w : World) (h : Pcs w v l) (hp : POk 0 l) (hl : l.length ≤ 1000000) :
    Calls Try.prog 53 #[.agg #[.int .i64 rd, v, .int .i64 fi, .int .i64 li]] w (RowfPost w (lay l fun _ => -1)) := by
  obtain ⟨i0, hi, hz0, hz1, hz2⟩ := info_parts try_infoInt
  have HI := Lib.hid hi
  have HP := Lib.hid h
  have HO := Lib.hid hp
  obtain ⟨g, o, c, rfl, _, hc⟩ := h
  have HC := Lib.hid hc
  have RB : Hid (Frm (w.alloc (.cells #[.int .i64 rd, .slice (some ⟨g, o, none⟩) l.length c, .int .i64 fi, .int .i64 li] 24)) w.heap.size [.int .i64 rd, .slice (some ⟨g, o, none⟩) l.length c, .int .i64 fi, .int .i64 li]) := Lib.hid (Frm.new _ _ _)
  have BB : Hid (Below w.heap.size w (w.alloc (.cells #[.int .i64 rd, .slice (some ⟨g, o, none⟩) l.length c, .int .i64 fi, .int .i64 li] 24))) := Lib.hid ((Below.refl _ _).alloc (Nat.le_refl _) _)
  clear hp hc hi
  go_enter Try.func53, Try.ntmps53
  go_wp2_with (at_make; refine wpList_make_full _ rfl _ _ 72 rfl (w.heap.size + 1) 3 i0 (.int .i64 0) 1 Try.underlying72 HI.out hz0 hz1 .i64 .i64 _ _ 30 rfl rfl rfl rfl (by rw [hz2]; omega) (by unfold maxLen; omega) (by simp) ?_)
  intro w1 hown hgrow
  generalize hW : (w.alloc (.cells #[.int .i64 rd, .slice (some ⟨g, o, none⟩) l.length c, .int .i64 fi, .int .i64 li] 24)) = W at *
  have hWs : W.heap.size = w.heap.size + 1 := by rw [← hW]; simp
  have hb0 : Below W.heap.size W w1 := (Below.refl _ _).grown hgrow (Nat.le_refl _) (fun k hk => by cases hk)
  have B1 : Hid (Below w.heap.size w w1) := Lib.hid (BB.out.trans (hb0.mono (by omega)))
  have F1 : Hid (Frm w1 w.heap.size [.int .i64 rd, .slice (some ⟨g, o, none⟩) l.length c, .int .i64 fi, .int .i64 li]) := Lib.hid (RB.out.below hb0 (by omega))
  have R1 : Hid (Rowf w1 w.heap.size (.slice (some ⟨w.heap.size + 1, 0, none⟩) 30 30) (fun _ => 0)) := by
    refine Lib.hid ?_
    have hinit : (madeCells #[Value.int .i64 0] 30).toList = (List.range 30).map fun _ => Value.int .i64 0 := by
      rw [toList_madeCells_one]; rfl
    rw [hinit] at hown
    obtain ⟨h0, h | ⟨g', c', cur, h1, h2, h3⟩⟩ := hown
    · exact absurd h.1 (by simp)
    · exact ⟨h0, .inr ⟨g', c', cur, h1, by omega, h3⟩⟩
  clear hown hgrow hb0 RB BB
  go_wp2_with fail
  go_loopw [4] (fun iv wr => ∃ j : Nat, j ≤ 30 ∧ iv = .int .i64 j ∧ Hid (Below w.heap.size w wr) ∧ Hid (Frm wr w.heap.size [.int .i64 rd, .slice (some ⟨g, o, none⟩) l.length c, .int .i64 fi, .int .i64 li]) ∧ Hid (Rowf wr w.heap.size (.slice (some ⟨w.heap.size + 1, 0, none⟩) 30 30) (fun i => if i < j then -1 else 0))) (fun iv _ => 30 - (intOf iv).toNat)
  case atStart => exact ⟨0, Nat.zero_le _, rfl, B1, F1, Lib.hid (R1.out.congr fun i _ => by simp)⟩
  case round =>
    obtain ⟨j, hj, rfl, HB, HF, HR⟩ := hrel
    by_cases hlt : j < 30
    · have hlt' : (j : Int) < 30 := by omega
      obtain ⟨hcl, hf, _⟩ := HR.out.at j hlt
      generalize (if j < j then (-1 : Int) else 0) = x at hcl
      have HB2 : Hid (Below w.heap.size w (wr.setCell ⟨w.heap.size + 1, j, none⟩ (.int .i64 (-1)))) := Lib.hid (HB.out.setCell (p := ⟨w.heap.size + 1, j, none⟩) (by show _ ≤ _; omega) _)
      have HF2 : Hid (Frm (wr.setCell ⟨w.heap.size + 1, j, none⟩ (.int .i64 (-1))) w.heap.size [.int .i64 rd, .slice (some ⟨g, o, none⟩) l.length c, .int .i64 fi, .int .i64 li]) := Lib.hid (HF.out.far (by omega) _)
      have HR2 : Hid (Rowf (wr.setCell ⟨w.heap.size + 1, j, none⟩ (.int .i64 (-1))) w.heap.size (.slice (some ⟨w.heap.size + 1, 0, none⟩) 30 30) (fun i => if i < j + 1 then -1 else 0)) := Lib.hid ((HR.out.set j hlt (-1)).congr fun i _ => by
        by_cases h1 : i = j
        · subst h1; simp
        · by_cases h2 : i < j
          · simp [h1, h2]; omega
          · simp [h1, h2]; omega)
      go_wp2_with fail
      go_roundw
      case rel => exact ⟨j + 1, by omega, by go_num, HB2, HF2, HR2⟩
      case measure => simp [intOf]; omega
    · have hlt' : ¬ (j : Int) < 30 := by omega
      clear B1 F1 R1
      go_wp2_with fail
      go_loopw [5] (fun iv wr => ∃ i : Nat, i ≤ l.length ∧ iv = .int .i64 i ∧ Hid (Below w.heap.size w wr) ∧ Hid (Frm wr w.heap.size [.int .i64 rd, .slice (some ⟨g, o, none⟩) l.length c, .int .i64 fi, .int .i64 li]) ∧ Hid (Rowf wr w.heap.size (.slice (some ⟨w.heap.size + 1, 0, none⟩) 30 30) (lay (l.take i) fun _ => -1))) (fun iv _ => l.length - (intOf iv).toNat)
      case atStart => exact ⟨0, Nat.zero_le _, rfl, HB, HF, Lib.hid (HR.out.congr fun i hi => by rw [if_pos (by omega)]; rfl)⟩
      case round =>
        obtain ⟨i, hi, rfl, HB, HF, HR⟩ := hrel
        have p1 : wr.cell? ⟨w.heap.size, 1, none⟩ = some (.slice (some ⟨g, o, none⟩) l.length c) := HF.out 1
        by_cases hil : i < l.length
        · have hil' : (i : Int) < (l.length : Int) := by omega
          obtain ⟨e1, e2⟩ := HC.out i hil
          have hpk := HO.out.at i hil
          have hg1 := World.block_lt_of_cell? w _ e1
          have hg2 := World.block_lt_of_cell? w _ e2
          have HT : Hid (lay (l.take (i + 1)) (fun _ => -1) = fun n => if pin (l.getD i pc0) n then dat (l.getD i pc0).2 ((n : Int) - (l.getD i pc0).1).toNat else lay (l.take i) (fun _ => -1) n) := Lib.hid (by
            funext n
            rw [List.take_succ_eq_append_getElem hil, lay_snoc, show l.getD i pc0 = l[i] by rw [List.getD_eq_getElem?_getD, List.getElem?_eq_getElem hil]; rfl])
          generalize hpc : l.getD i pc0 = p at e1 e2 hpk HT
          obtain ⟨x, d⟩ := p
          simp only at e1 e2 hpk HT
          clear hpc
          obtain ⟨q0, q1⟩ := hpk
          have E1 : Hid (w.cell? ⟨g, o + i * 2, none⟩ = some (.int .i64 x)) := Lib.hid e1
          have E2 : Hid (w.cell? ⟨g, o + i * 2 + 1, none⟩ = some (.string d)) := Lib.hid e2
          clear e1 e2
          go_wp2_with fail
          go_loopw [6] (fun kv wr => ∃ k : Nat, k ≤ d.size ∧ kv = .int .i64 k ∧ Hid (Below w.heap.size w wr) ∧ Hid (Frm wr w.heap.size [.int .i64 rd, .slice (some ⟨g, o, none⟩) l.length c, .int .i64 fi, .int .i64 li]) ∧ Hid (Rowf wr w.heap.size (.slice (some ⟨w.heap.size + 1, 0, none⟩) 30 30) (fun n => if x ≤ (n : Int) ∧ (n : Int) < x + (k : Int) then dat d ((n : Int) - x).toNat else lay (l.take i) (fun _ => -1) n))) (fun kv _ => d.size - (intOf kv).toNat)
          case atStart => exact ⟨0, Nat.zero_le _, rfl, HB, HF, Lib.hid (HR.out.congr fun n _ => by rw [if_neg (by omega)])⟩
          case round =>
            obtain ⟨k, hk, rfl, HB, HF, HR⟩ := hrel
            have p1 : wr.cell? ⟨w.heap.size, 1, none⟩ = some (.slice (some ⟨g, o, none⟩) l.length c) := HF.out 1
            have e1 : wr.cell? ⟨g, o + i * 2, none⟩ = some (.int .i64 x) := (HB.out.cell hg1).trans E1.out
            have e2 : wr.cell? ⟨g, o + i * 2 + 1, none⟩ = some (.string d) := (HB.out.cell hg2).trans E2.out
            by_cases hkl : k < d.size
            · have hkl' : (k : Int) < (d.size : Int) := by omega
              go_wp2_with fail
              refine wp_region_still_tail 18 (by kernel_rfl) (by kernel_rfl) ?_
              obtain ⟨W, hW⟩ : ∃ W, ({ wr with drawn := wr.drawn + 1 } : World) = W := ⟨_, rfl⟩
              have m : (x + (k : Int)).toNat < 30 := by omega
              have f0 : W.cell? ⟨w.heap.size, 1, none⟩ = some (.slice (some ⟨g, o, none⟩) l.length c) := by rw [← hW]; exact p1
              have f1 : W.cell? ⟨g, o + i * 2, none⟩ = some (.int .i64 x) := by rw [← hW]; exact e1
              have f2 : W.cell? ⟨g, o + i * 2 + 1, none⟩ = some (.string d) := by rw [← hW]; exact e2
              have HBW : Hid (Below w.heap.size w W) := Lib.hid (by rw [← hW]; exact below_drewN' HB.out 1)
              have HFW : Hid (Frm W w.heap.size [.int .i64 rd, .slice (some ⟨g, o, none⟩) l.length c, .int .i64 fi, .int .i64 li]) := Lib.hid (by rw [← hW]; exact HF.out)
              have HRW : Hid (Rowf W w.heap.size (.slice (some ⟨w.heap.size + 1, 0, none⟩) 30 30) (fun n => if x ≤ (n : Int) ∧ (n : Int) < x + (k : Int) then dat d ((n : Int) - x).toNat else lay (l.take i) (fun _ => -1) n)) := Lib.hid (by rw [← hW]; exact HR.out)
              rw [hW]
              clear hW e1 e2 p1
              obtain ⟨hcl, hf, _⟩ := HRW.out.at (x + (k : Int)).toNat m
              generalize (if x ≤ (((x + (k : Int)).toNat : Nat) : Int) ∧ (((x + (k : Int)).toNat : Nat) : Int) < x + (k : Int) then dat d ((((x + (k : Int)).toNat : Nat) : Int) - x).toNat else lay (l.take i) (fun _ => -1) (x + (k : Int)).toNat) = y at hcl
              have i1 : IntKind.i64.wrap (x + (k : Int)) = x + (k : Int) := IntWalk.i64_in _ (by omega)
              have i2 : (0 : Int) ≤ x + (k : Int) := by omega
              have i3 : x + (k : Int) < 30 := by omega
              simp only [List.take_succ_cons, List.take_zero, List.drop_succ_cons, List.drop_zero]
              iterate 18 still_step
              refine wpStill_nil ?_
              go_wp2_with fail
              go_roundw
              case rel => exact ⟨k + 1, by omega, by go_num, Lib.hid (HBW.out.setCell (p := ⟨w.heap.size + 1, _, none⟩) (by show _ ≤ _; omega) _), Lib.hid (HFW.out.far (by omega) _), Lib.hid ((HRW.out.set _ m _).congr fun n _ => by
                have hn : n = (x + (k : Int)).toNat ↔ (n : Int) = x + (k : Int) := by omega
                by_cases h1 : n = (x + (k : Int)).toNat
                · have h2 := hn.1 h1
                  rw [if_pos h1, if_pos (by omega), show ((n : Int) - x).toNat = k by omega, dat_get d hkl]
                  unfold wrap64
                  have := (d[k]'hkl).toNat_lt
                  omega
                · rw [if_neg h1]
                  have h2 : ¬ (n : Int) = x + (k : Int) := fun e => h1 (hn.2 e)
                  by_cases h3 : x ≤ (n : Int) ∧ (n : Int) < x + (k : Int)
                  · rw [if_pos h3, if_pos (by omega)]
                  · rw [if_neg h3, if_neg (by omega)])⟩
              case measure => simp [intOf]; omega
            · have hkl' : ¬ (k : Int) < (d.size : Int) := by omega
              have HR9 : Hid (Rowf wr w.heap.size (.slice (some ⟨w.heap.size + 1, 0, none⟩) 30 30) (lay (l.take (i + 1)) fun _ => -1)) := Lib.hid (by
                rw [HT.out]
                refine HR.out.congr fun n _ => ?_
                have : k = d.size := by omega
                subst this
                unfold pin
                rfl)
              go_wp2_with fail
              go_roundw
              case rel => exact ⟨i + 1, by omega, by go_num, HB, HF, HR9⟩
              case measure => simp [intOf]; omega
        · have hil' : ¬ (i : Int) < (l.length : Int) := by omega
          have HR9 : Hid (Rowf wr w.heap.size (.slice (some ⟨w.heap.size + 1, 0, none⟩) 30 30) (lay l fun _ => -1)) := Lib.hid (by
            have := HR.out
            rwa [List.take_of_length_le (by omega)] at this)
          go_wp2_with fail
          go_ret
          exact ⟨_, rfl, HB.out, HR9.out⟩

end Go.Proofs.Ythdhjjbgegcncaa
