/- markPieceS, heldPieceS, markRecv, heldRecv. -/
import Derived.Test.YthdhjjbgegcncaaPcn
import Derived.Test.YthdhjjbgegcncaaRcH
import Derived.Test.YthdhjjbgegcncaaTpRc
import Derived.Test.YthdhjjbgegcncaaMkT2
import Derived.Deep.RegionHeld3
namespace Go.Proofs.Ythdhjjbgegcncaa
open Go.RowKit
set_option linter.unusedVariables false
set_option linter.unusedSimpArgs false

/-- (1, m2), (3, m4), .. -/
def qmarks (n : Nat) : List Pc := (List.range n).map (fun (i : Nat) => (1 + 2 * (i : Int), mtS (1 + 2 * (i : Int) + 1)))
theorem qmarks_len (n : Nat) : (qmarks n).length = n := by simp [qmarks]
theorem qmarks_at (n i : Nat) (h : i < n) : (qmarks n).getD i pc0 = (1 + 2 * (i : Int), mtS (1 + 2 * (i : Int) + 1)) := by
  simp [qmarks, List.getD_eq_getElem?_getD, List.getElem?_map, List.getElem?_range h]
def qmk (j : Nat) (l : List Pc) : List Pc := qmarks j ++ l.drop j
theorem qmk_len (j : Nat) (l : List Pc) (h : j ≤ l.length) : (qmk j l).length = l.length := by simp [qmk, qmarks_len]; omega
theorem qmk_zero (l : List Pc) : qmk 0 l = l := by simp [qmk, qmarks]
theorem qmk_all (l : List Pc) : qmk l.length l = qmarks l.length := by simp [qmk]
theorem qmk_step (j : Nat) (l : List Pc) (h : j < l.length) : ((pcells (qmk j l)).set (j * 2) (.int .i64 (1 + 2 * (j : Int)))).set (j * 2 + 1) (.string (mtS (1 + 2 * (j : Int) + 1))) = pcells (qmk (j + 1) l) := by
  have e : qmarks (j + 1) = qmarks j ++ [(1 + 2 * (j : Int), mtS (1 + 2 * (j : Int) + 1))] := by simp [qmarks, List.range_succ]
  have d : l.drop j = l[j] :: l.drop (j + 1) := List.drop_eq_getElem_cons h
  have hl : (pcells (qmarks j)).length = j * 2 := by rw [pcells_len, qmarks_len]
  unfold qmk
  rw [e, d, pcells_app, pcells_app, pcells_app]
  have e1 : pcells (l[j] :: l.drop (j + 1)) = .int .i64 l[j].1 :: .string l[j].2 :: pcells (l.drop (j + 1)) := rfl
  have e2 : pcells [((1 + 2 * (j : Int), mtS (1 + 2 * (j : Int) + 1)) : Pc)] = [.int .i64 (1 + 2 * (j : Int)), .string (mtS (1 + 2 * (j : Int) + 1))] := rfl
  rw [e1, e2, List.set_append_right _ _ (by omega), hl, Nat.sub_self, List.set_cons_zero, List.set_append_right _ _ (by omega), hl, show j * 2 + 1 - j * 2 = 1 by omega, List.set_cons_succ, List.set_cons_zero, List.append_assoc]
  rfl

set_option maxRecDepth 100000 in
set_option maxHeartbeats 1000000 in
theorem markpc_any (v : Value) (l : List Pc) (B : Nat) (w : World) (h : OwnPc w B v l) (hx : l.length ≤ 1048576) :
    Calls Try.prog 32 #[v, .int .i64 1] w fun e w' => e = .returned (.int .i64 (1 + 2 * (l.length : Int))) ∧ w.grownBy w' v.ownBlock ∧ OwnPc w' B v (qmarks l.length) := by
  by_cases h0 : l = []
  · subst h0
    obtain ⟨a, c, rfl⟩ := ownsRow_shape h
    have H := Lib.hid h
    clear h
    go_enter Try.func32, Try.ntmps32
    go_wp2_with fail
    refine wp_loop_rounds 1 ?_
    rw [rounds_succ]
    go_wp2_with fail
    go_ret
    exact ⟨ret_int (by simp), World.grownBy.refl _ _, by simpa [qmarks] using H.out⟩
  · obtain ⟨g, c, rfl, hgB⟩ : ∃ g c, v = .slice (some ⟨g, 0, none⟩) l.length c ∧ B ≤ g := by
      obtain ⟨_, h' | ⟨g, c, cur, h', hb, _⟩⟩ := id h
      · exact absurd (List.length_eq_zero_iff.1 h'.2) h0
      · exact ⟨g, c, h', hb⟩
    have H := Lib.hid h
    clear h h0
    go_enter Try.func32, Try.ntmps32
    go_wp2_with fail
    go_loopw [1, 5] (fun kv iv wr => ∃ j : Nat, j ≤ l.length ∧ kv = .int .i64 (1 + 2 * (j : Int)) ∧ iv = .int .i64 j ∧ Hid (w.grownBy wr (some g)) ∧ Hid (OwnPc wr B (.slice (some ⟨g, 0, none⟩) l.length c) (qmk j l))) (fun _ iv _ => l.length - (intOf iv).toNat)
    case atStart => exact ⟨0, Nat.zero_le _, by simp, rfl, World.grownBy.refl _ _, by show OwnPc _ _ _ _; rw [qmk_zero]; exact H.out⟩
    case round =>
      obtain ⟨j, hj, rfl, rfl, HG, HO⟩ := hrel
      by_cases hlt : j < l.length
      · have hlt' : (j : Int) < (l.length : Int) := by omega
        have ho3 := HO.out
        unfold OwnPc at ho3
        rw [qmk_len j l hj] at ho3
        have hf0 := ho3.frozenAt (j * 2)
        have hc0 := ho3.cellAt (j * 2) (by omega)
        have hjl : j < (qmk j l).length := by rw [qmk_len j l hj]; exact hlt
        obtain ⟨r1, r2⟩ := pcells_at (qmk j l) j hjl
        rw [r1] at hc0
        generalize ((qmk j l).getD j pc0).1 = u1 at hc0
        obtain ⟨st, sg⟩ := ho3.stored (j * 2) (.int .i64 (1 + 2 * (j : Int)))
        have v1 : IntKind.i64.wrap (1 + 2 * (j : Int) + 1) = 1 + 2 * (j : Int) + 1 := IntWalk.i64_in _ (by omega)
        have v2 : IntKind.i64.wrap (1 + 2 * (j : Int) + 1 + 1) = 1 + 2 * (j : Int) + 1 + 1 := IntWalk.i64_in _ (by omega)
        have MT := Lib.hid (fun W => mt_any (1 + 2 * (j : Int) + 1) W (by omega) (by omega))
        have ST := Lib.hid st
        have SG := Lib.hid (HG.out.trans sg)
        have R2 := Lib.hid r2
        clear st sg ho3 r1 r2 hjl
        go_wp2_with fail
        generalize (wr.setCell ⟨g, j * 2, none⟩ (.int .i64 (1 + 2 * (j : Int)))) = W1 at *
        refine (MT.out _).mono ?_
        rintro e w2 ⟨rfl, hb2⟩
        have st2 := own_below ST.out hb2
        have hf1 := st2.frozenAt (j * 2 + 1)
        have hc1 := st2.cellAt (j * 2 + 1) (by omega)
        rw [List.getElem?_set_ne (by omega), R2.out] at hc1
        generalize ((qmk j l).getD j pc0).2 = u2 at hc1
        obtain ⟨st3, sg3⟩ := st2.stored (j * 2 + 1) (.string (mtS (1 + 2 * (j : Int) + 1)))
        rw [qmk_step j l hlt] at st3
        have ST3 := Lib.hid st3
        have SG3 := Lib.hid ((SG.out.trans (show W1.grownBy w2 (some g) from ⟨hb2.os, hb2.tape, hb2.output, hb2.size, fun i hi _ => hb2.block i hi⟩)).trans sg3)
        clear st2 st3 sg3 hb2 ST SG R2
        go_wp2_with fail
        go_roundw
        case rel => exact ⟨j + 1, by omega, (by first | go_num | (congr 1; omega)), by go_num, SG3.out, by show OwnPc _ _ _ _; unfold OwnPc; rw [qmk_len (j + 1) l (by omega)]; exact ST3.out⟩
        case measure => simp [intOf]; omega
      · have he : j = l.length := by omega
        have HE := Lib.hid he
        have HO2 := Lib.hid (show OwnPc wr B (.slice (some ⟨g, 0, none⟩) l.length c) (qmarks l.length) by have := HO.out; rw [he, qmk_all] at this; exact this)
        clear he
        go_wp2_with fail
        go_ret
        exact ⟨ret_int (by rw [HE.out]), HG.out, HO2.out⟩

set_option maxRecDepth 100000 in
set_option maxHeartbeats 1000000 in
theorem heldpc_any (v : Value) (n : Nat) (w : World) (h : Pcn w v (qmarks n)) (hx : n ≤ 1048576) :
    Calls Try.prog 33 #[v, .int .i64 1] w fun e w' => e = .returned (.int .i64 (1 + 2 * (n : Int))) ∧ Below w.heap.size w w' := by
  obtain ⟨a, c, rfl, h⟩ := h
  rw [qmarks_len]
  have HC := Lib.hid h
  clear h
  go_enter Try.func33, Try.ntmps33
  go_wp2_with fail
  go_loopw [1, 5] (fun kv iv wr => ∃ j : Nat, j ≤ n ∧ kv = .int .i64 (1 + 2 * (j : Int)) ∧ iv = .int .i64 j ∧ Hid (Below w.heap.size w wr)) (fun _ iv _ => n - (intOf iv).toNat)
  case atStart => exact ⟨0, Nat.zero_le _, by simp, rfl, Below.refl _ _⟩
  case round =>
    obtain ⟨j, hj, rfl, rfl, HB⟩ := hrel
    by_cases hlt : j < n
    · have hlt' : (j : Int) < (n : Int) := by omega
      obtain ⟨g, o, rfl, hc⟩ := HC.out (by intro e; have := qmarks_len n; rw [e] at this; simp at this; omega)
      obtain ⟨e1, e2⟩ := hc j (by rw [qmarks_len]; exact hlt)
      rw [qmarks_at n j hlt] at e1 e2
      have f1 := (HB.out.cell (World.block_lt_of_cell? w _ e1)).trans e1
      have f2 := (HB.out.cell (World.block_lt_of_cell? w _ e2)).trans e2
      clear e1 e2
      have n1 : ((1 + 2 * (j : Int)) != (1 + 2 * (j : Int))) = false := by simp
      have v1 : IntKind.i64.wrap (1 + 2 * (j : Int) + 1) = 1 + 2 * (j : Int) + 1 := IntWalk.i64_in _ (by omega)
      have v2 : IntKind.i64.wrap (1 + 2 * (j : Int) + 1 + 1) = 1 + 2 * (j : Int) + 1 + 1 := IntWalk.i64_in _ (by omega)
      have MT := Lib.hid (fun W => mt_any (1 + 2 * (j : Int) + 1) W (by omega) (by omega))
      simp only at f1 f2
      generalize mtS (1 + 2 * (j : Int) + 1) = ms at *
      have hlg : g < wr.drew.heap.size := World.block_lt_of_cell? wr _ f1
      have HLG := Lib.hid hlg
      have C4 : Hid (wr.drew.cell? ⟨g, o + j * 2 + 1, none⟩ = some (.string ms)) := Lib.hid f2
      have HBd := Lib.hid HB.out.drew
      clear hc hlg f2
      go_wp2_with fail
      clear f1
      go_region_held3 (fun w' => w'.cell? ⟨g, o + j * 2 + 1, none⟩ = some (.string ms)) (with_reducible first | assumption | exact C4.out | exact k2)
        ((go_at_call 50; refine (MT.out _).mono ?_; rintro e w2 ⟨rfl, hb2⟩; have k2 : w2.cell? ⟨g, o + j * 2 + 1, none⟩ = some (.string ms) := (hb2.cell HLG.out).trans C4.out))
      have HB2 := Lib.hid (HBd.out.trans (hb2.mono HBd.out.size))
      clear hb2 k2
      go_wp2_with fail
      go_roundw
      case rel => exact ⟨j + 1, by omega, (by first | go_num | (congr 1; omega)), by go_num, HB2.out⟩
      case measure => simp [intOf]; omega
    · have he : j = n := by omega
      have HE := Lib.hid he
      clear he
      go_wp2_with fail
      go_ret
      exact ⟨ret_int (by rw [HE.out]), HB.out⟩

set_option maxRecDepth 100000 in
set_option maxHeartbeats 1000000 in
theorem mkrc_any (rd fi li : Int) (v : Value) (l : List Pc) (B : Nat) (w : World) (h : OwnPc w B v l) (hl : l.length ≤ 1048576) :
    Calls Try.prog 13 #[.agg #[.int .i64 rd, v, .int .i64 fi, .int .i64 li], .int .i64 1] w fun e w' => e = .returned (.int .i64 (1 + 2 * (l.length : Int))) ∧ w.grownBy w' v.ownBlock ∧ OwnPc w' B v (qmarks l.length) := by
  have U : Below w.heap.size w (w.alloc (.cells #[.int .i64 rd, v, .int .i64 fi, .int .i64 li] 24)) := (Below.refl _ _).alloc (Nat.le_refl _) _
  have HM := Lib.hid (markpc_any v l B _ (OwnPc.below h U) hl)
  have GR := Lib.hid (show w.grownBy (w.alloc (.cells #[.int .i64 rd, v, .int .i64 fi, .int .i64 li] 24)) v.ownBlock from ⟨U.os, U.tape, U.output, U.size, fun j hj _ => U.block j hj⟩)
  obtain ⟨a, c, rfl⟩ := ownsRow_shape h
  clear h U
  go_enter Try.func13, Try.ntmps13
  go_wp2_with fail
  refine HM.out.mono ?_
  rintro e w1 ⟨rfl, hg, ho⟩
  have HG := Lib.hid (GR.out.trans hg)
  have HO := Lib.hid ho
  clear hg ho
  go_wp2_with fail
  go_ret
  exact ⟨rfl, HG.out, HO.out⟩

set_option maxRecDepth 100000 in
set_option maxHeartbeats 1000000 in
theorem hdrc_any (rd fi li : Int) (a : Option Addr) (n c : Nat) (w : World) (h : Pcn w (.slice a n c) (qmarks n)) (hl : n ≤ 1048576) :
    Calls Try.prog 14 #[.agg #[.int .i64 rd, .slice a n c, .int .i64 fi, .int .i64 li], .int .i64 1] w fun e w' => e = .returned (.int .i64 (1 + 2 * (n : Int))) ∧ Below w.heap.size w w' := by
  have U := Lib.hid (show Below w.heap.size w (w.alloc (.cells #[.int .i64 rd, .slice a n c, .int .i64 fi, .int .i64 li] 24)) from (Below.refl _ _).alloc (Nat.le_refl _) _)
  have HH := Lib.hid (heldpc_any _ n _ (h.below U.out) hl)
  clear h
  go_enter Try.func14, Try.ntmps14
  go_wp2_with fail
  refine HH.out.mono ?_
  rintro e w1 ⟨rfl, hb⟩
  have HB := Lib.hid (U.out.trans (hb.mono U.out.size))
  have hz : ¬ (1 + 2 * (n : Int)) < 0 := by omega
  clear hb
  go_wp2_with fail
  go_ret
  exact ⟨rfl, HB.out⟩

end Go.Proofs.Ythdhjjbgegcncaa
