/- Chapter 31, the model: l31Bytes. -/
import Derived.Test.YtifohfclgonhfaaPc
import Derived.Laws.OwnMore
import Derived.StillTailTactics
import Derived.Deep.QuietTactic
import Derived.BigQuiet
namespace Go.Proofs.Ytifohfclgonhfaa
open Go.RowKit
set_option linter.unusedVariables false
set_option linter.unusedSimpArgs false

/-- Thirty ints of the call's own. -/
def Row30 (w : World) (B : Nat) (v : Value) : Prop := ∃ xs : List Int, xs.length = 30 ∧ w.ownsRow B 3 1 v 30 (xs.map (Value.int .i64))
def Row30Post (w : World) (e : Ending) (w' : World) : Prop := ∃ g, e = .returned (.slice (some ⟨g, 0, none⟩) 30 30) ∧ Below w.heap.size w w' ∧ Row30 w' w.heap.size (.slice (some ⟨g, 0, none⟩) 30 30)
theorem Row30.at {w : World} {B g : Nat} (h : Row30 w B (.slice (some ⟨g, 0, none⟩) 30 30)) (j : Nat) (hj : j < 30) : (∃ x, w.cell? ⟨g, j, none⟩ = some (.int .i64 x)) ∧ w.frozen? ⟨g, j, none⟩ = false ∧ B ≤ g := by
  obtain ⟨xs, hx, ho⟩ := h
  have hcl := ho.cellAt j (by omega)
  rw [List.getElem?_map, List.getElem?_eq_getElem (by omega)] at hcl
  exact ⟨⟨_, hcl⟩, ho.frozenAt j, (ho.lt g rfl).1⟩
theorem Row30.set {w : World} {B g : Nat} (h : Row30 w B (.slice (some ⟨g, 0, none⟩) 30 30)) (j : Nat) (x : Int) : Row30 (w.setCell ⟨g, j, none⟩ (.int .i64 x)) B (.slice (some ⟨g, 0, none⟩) 30 30) := by
  obtain ⟨xs, hx, ho⟩ := h
  have := (ho.stored j (.int .i64 x)).1
  rw [map_set] at this
  exact ⟨xs.set j x, by simpa using hx, this⟩
theorem Row30.below {w w' : World} {B : Nat} {v : Value} (h : Row30 w B v) (hb : Below w.heap.size w w') : Row30 w' B v := by
  obtain ⟨xs, hx, ho⟩ := h
  exact ⟨xs, hx, own_below ho hb⟩

theorem Row30.drew {w : World} {B : Nat} {v : Value} (h : Row30 w B v) (n : Nat) : Row30 (w.drewN n) B v := h
theorem Frm.drew {w : World} {b : Nat} {vs : List Value} (h : Frm w b vs) (n : Nat) : Frm (w.drewN n) b vs := h

set_option maxRecDepth 100000 in
set_option maxHeartbeats 1000000 in
theorem sbytes_any (v : Value) (l : List Pc) (rd fi li : Int) (w : World) (h : Pcs w v l) (hp : POk 0 l) (hl : l.length ≤ 1000000) :
    Calls Try.prog 90 #[.agg #[.int .i64 rd, v, .int .i64 fi, .int .i64 li]] w (Row30Post w) := by
  obtain ⟨i0, hi, hz0, hz1, hz2⟩ := info_parts try_infoInt
  have HI := Lib.hid hi
  have HP := Lib.hid h
  have HO := Lib.hid hp
  obtain ⟨g, o, c, rfl, _, hc⟩ := h
  have HC := Lib.hid hc
  have RB : Hid (Frm (w.alloc (.cells #[.int .i64 rd, .slice (some ⟨g, o, none⟩) l.length c, .int .i64 fi, .int .i64 li] 47)) w.heap.size [.int .i64 rd, .slice (some ⟨g, o, none⟩) l.length c, .int .i64 fi, .int .i64 li]) := Lib.hid (Frm.new _ _ _)
  have BB : Hid (Below w.heap.size w (w.alloc (.cells #[.int .i64 rd, .slice (some ⟨g, o, none⟩) l.length c, .int .i64 fi, .int .i64 li] 47))) := Lib.hid ((Below.refl _ _).alloc (Nat.le_refl _) _)
  clear hp hc hi
  go_enter Try.func90, Try.ntmps90
  go_wp2_with (at_make; refine wpList_make_full _ rfl _ _ 107 rfl (w.heap.size + 1) 3 i0 (.int .i64 0) 1 Try.underlying107 HI.out hz0 hz1 .i64 .i64 _ _ 30 rfl rfl rfl rfl (by rw [hz2]; omega) (by unfold maxLen; omega) (by simp) ?_)
  intro w1 hown hgrow
  generalize hW : (w.alloc (.cells #[.int .i64 rd, .slice (some ⟨g, o, none⟩) l.length c, .int .i64 fi, .int .i64 li] 47)) = W at *
  have hWs : W.heap.size = w.heap.size + 1 := by rw [← hW]; simp
  have hb0 : Below W.heap.size W w1 := (Below.refl _ _).grown hgrow (Nat.le_refl _) (fun k hk => by cases hk)
  have B1 : Hid (Below w.heap.size w w1) := Lib.hid (BB.out.trans (hb0.mono (by omega)))
  have F1 : Hid (Frm w1 w.heap.size [.int .i64 rd, .slice (some ⟨g, o, none⟩) l.length c, .int .i64 fi, .int .i64 li]) := Lib.hid (RB.out.below hb0 (by omega))
  have R1 : Hid (Row30 w1 w.heap.size (.slice (some ⟨w.heap.size + 1, 0, none⟩) 30 30)) := by
    refine Lib.hid ⟨List.replicate 30 0, by simp, ?_⟩
    have hinit : (madeCells #[Value.int .i64 0] 30).toList = (List.replicate 30 (0 : Int)).map (Value.int .i64) := by
      rw [toList_madeCells_one]; simp
    rw [hinit] at hown
    obtain ⟨h0, h | ⟨g', c', cur, h1, h2, h3⟩⟩ := hown
    · exact absurd h.1 (by simp)
    · exact ⟨h0, .inr ⟨g', c', cur, h1, by omega, h3⟩⟩
  clear hown hgrow hb0 RB BB
  go_wp2_with fail
  go_loopw [4] (fun iv wr => ∃ j : Nat, j ≤ 30 ∧ iv = .int .i64 j ∧ Hid (Below w.heap.size w wr) ∧ Hid (Frm wr w.heap.size [.int .i64 rd, .slice (some ⟨g, o, none⟩) l.length c, .int .i64 fi, .int .i64 li]) ∧ Hid (Row30 wr w.heap.size (.slice (some ⟨w.heap.size + 1, 0, none⟩) 30 30))) (fun iv _ => 30 - (intOf iv).toNat)
  case atStart => exact ⟨0, Nat.zero_le _, rfl, B1, F1, R1⟩
  case round =>
    obtain ⟨j, hj, rfl, HB, HF, HR⟩ := hrel
    by_cases hlt : j < 30
    · have hlt' : (j : Int) < 30 := by omega
      obtain ⟨⟨x, hcl⟩, hf, _⟩ := HR.out.at j hlt
      have HB2 : Hid (Below w.heap.size w (wr.setCell ⟨w.heap.size + 1, j, none⟩ (.int .i64 (-1)))) := Lib.hid (HB.out.setCell (p := ⟨w.heap.size + 1, j, none⟩) (by show _ ≤ _; omega) _)
      have HF2 : Hid (Frm (wr.setCell ⟨w.heap.size + 1, j, none⟩ (.int .i64 (-1))) w.heap.size [.int .i64 rd, .slice (some ⟨g, o, none⟩) l.length c, .int .i64 fi, .int .i64 li]) := Lib.hid (HF.out.far (by omega) _)
      have HR2 := Lib.hid (HR.out.set j (-1))
      go_wp2_with fail
      go_roundw
      case rel => exact ⟨j + 1, by omega, by go_num, HB2, HF2, HR2⟩
      case measure => simp [intOf]; omega
    · have hlt' : ¬ (j : Int) < 30 := by omega
      clear B1 F1 R1
      go_wp2_with fail
      go_loopw [5] (fun iv wr => ∃ i : Nat, i ≤ l.length ∧ iv = .int .i64 i ∧ Hid (Below w.heap.size w wr) ∧ Hid (Frm wr w.heap.size [.int .i64 rd, .slice (some ⟨g, o, none⟩) l.length c, .int .i64 fi, .int .i64 li]) ∧ Hid (Row30 wr w.heap.size (.slice (some ⟨w.heap.size + 1, 0, none⟩) 30 30))) (fun iv _ => l.length - (intOf iv).toNat)
      case atStart => exact ⟨0, Nat.zero_le _, rfl, HB, HF, HR⟩
      case round =>
        obtain ⟨i, hi, rfl, HB, HF, HR⟩ := hrel
        have p1 : wr.cell? ⟨w.heap.size, 1, none⟩ = some (.slice (some ⟨g, o, none⟩) l.length c) := HF.out 1
        by_cases hil : i < l.length
        · have hil' : (i : Int) < (l.length : Int) := by omega
          obtain ⟨e1, e2⟩ := HC.out i hil
          have hpk := HO.out.at i hil
          have hg1 := World.block_lt_of_cell? w _ e1
          have hg2 := World.block_lt_of_cell? w _ e2
          generalize (l.getD i pc0).1 = x at e1 hpk
          generalize (l.getD i pc0).2 = d at e2 hpk
          obtain ⟨q0, q1⟩ := hpk
          have E1 : Hid (w.cell? ⟨g, o + i * 2, none⟩ = some (.int .i64 x)) := Lib.hid e1
          have E2 : Hid (w.cell? ⟨g, o + i * 2 + 1, none⟩ = some (.string d)) := Lib.hid e2
          clear e1 e2
          go_wp2_with fail
          go_loopw [6] (fun kv wr => ∃ k : Nat, k ≤ d.size ∧ kv = .int .i64 k ∧ Hid (Below w.heap.size w wr) ∧ Hid (Frm wr w.heap.size [.int .i64 rd, .slice (some ⟨g, o, none⟩) l.length c, .int .i64 fi, .int .i64 li]) ∧ Hid (Row30 wr w.heap.size (.slice (some ⟨w.heap.size + 1, 0, none⟩) 30 30))) (fun kv _ => d.size - (intOf kv).toNat)
          case atStart => exact ⟨0, Nat.zero_le _, rfl, HB, HF, HR⟩
          case round =>
            obtain ⟨k, hk, rfl, HB, HF, HR⟩ := hrel
            have p1 : wr.cell? ⟨w.heap.size, 1, none⟩ = some (.slice (some ⟨g, o, none⟩) l.length c) := HF.out 1
            have e1 : wr.cell? ⟨g, o + i * 2, none⟩ = some (.int .i64 x) := (HB.out.cell hg1).trans E1.out
            have e2 : wr.cell? ⟨g, o + i * 2 + 1, none⟩ = some (.string d) := (HB.out.cell hg2).trans E2.out
            by_cases hkl : k < d.size
            · have hkl' : (k : Int) < (d.size : Int) := by omega
              go_wp2_with fail
              refine wp_region_still_tail 18 (by kernel_rfl) (by kernel_rfl) ?_
              obtain ⟨W, hW⟩ : ∃ W, ({ wr with drawn := wr.drawn + 1 } : World) = W := ⟨_, rfl⟩
              have m : (x + (k : Int)).toNat < 30 := by omega
              have f0 : W.cell? ⟨w.heap.size, 1, none⟩ = some (.slice (some ⟨g, o, none⟩) l.length c) := by rw [← hW]; exact p1
              have f1 : W.cell? ⟨g, o + i * 2, none⟩ = some (.int .i64 x) := by rw [← hW]; exact e1
              have f2 : W.cell? ⟨g, o + i * 2 + 1, none⟩ = some (.string d) := by rw [← hW]; exact e2
              have HBW : Hid (Below w.heap.size w W) := Lib.hid (by rw [← hW]; exact below_drewN' HB.out 1)
              have HFW : Hid (Frm W w.heap.size [.int .i64 rd, .slice (some ⟨g, o, none⟩) l.length c, .int .i64 fi, .int .i64 li]) := Lib.hid (by rw [← hW]; exact HF.out)
              have HRW : Hid (Row30 W w.heap.size (.slice (some ⟨w.heap.size + 1, 0, none⟩) 30 30)) := Lib.hid (by rw [← hW]; exact HR.out)
              rw [hW]
              clear hW e1 e2 p1
              obtain ⟨⟨y, hcl⟩, hf, _⟩ := HRW.out.at (x + (k : Int)).toNat m
              have i1 : IntKind.i64.wrap (x + (k : Int)) = x + (k : Int) := IntWalk.i64_in _ (by omega)
              have i2 : (0 : Int) ≤ x + (k : Int) := by omega
              have i3 : x + (k : Int) < 30 := by omega
              simp only [List.take_succ_cons, List.take_zero, List.drop_succ_cons, List.drop_zero]
              iterate 18 still_step
              refine wpStill_nil ?_
              go_wp2_with fail
              go_roundw
              case rel => exact ⟨k + 1, by omega, by go_num, Lib.hid (HBW.out.setCell (p := ⟨w.heap.size + 1, _, none⟩) (by show _ ≤ _; omega) _), Lib.hid (HFW.out.far (by omega) _), Lib.hid (HRW.out.set _ _)⟩
              case measure => simp [intOf]; omega
            · have hkl' : ¬ (k : Int) < (d.size : Int) := by omega
              go_wp2_with fail
              go_roundw
              case rel => exact ⟨i + 1, by omega, by go_num, HB, HF, HR⟩
              case measure => simp [intOf]; omega
        · have hil' : ¬ (i : Int) < (l.length : Int) := by omega
          go_wp2_with fail
          go_ret
          exact ⟨_, rfl, HB.out, HR.out⟩

end Go.Proofs.Ytifohfclgonhfaa
