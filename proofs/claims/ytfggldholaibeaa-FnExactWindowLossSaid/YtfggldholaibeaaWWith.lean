/- windowsWith: the array of a valid list, with a window i. -/
import Derived.Test.YtfggldholaibeaaWUpd
import Derived.Test.YtfggldholaibeaaWIv
import Derived.Deep.MidRow
import Derived.Deep.WholeRow
import Derived.Laws.ResultCell
namespace Go.Proofs.Ytfggldholaibeaa
open Go.RowKit
set_option linter.unusedVariables false
set_option linter.unusedSimpArgs false

abbrev z16 : List Value := [.int .i64 0, .int .i64 0, .int .i64 0, .int .i64 0, .int .i64 0, .int .i64 0, .int .i64 0, .int .i64 0, .int .i64 0, .int .i64 0, .int .i64 0, .int .i64 0, .int .i64 0, .int .i64 0, .int .i64 0, .int .i64 0]
/-- The 17 cells of the array of a list. -/
def wcs (l : List Wd) : List Value := wcells l ++ (z16 ++ [Value.int .i64 (l.length : Int)]).drop (l.length * 4)
theorem wcs_len {l : List Wd} (h : l.length ≤ 4) : (wcs l).length = 17 := by
  unfold wcs
  rw [List.length_append, wcells_len, List.length_drop]
  simp; omega
theorem wcs_one (l : List Wd) : ∀ u ∈ wcs l, u.oneCell' = true := by
  intro u hu
  rcases List.mem_append.1 hu with hu | hu
  · exact wcells_one l u hu
  · have := List.mem_of_mem_drop hu
    simp [z16] at this
    rcases this with rfl | rfl <;> rfl
theorem wcs_at {l : List Wd} (h : l.length ≤ 4) (i j : Nat) (hi : i < l.length) (hj : j < 4) : (wcs l)[i * 4 + j]? = (wcell l[i])[j]? := by
  unfold wcs
  rw [List.getElem?_append_left (by rw [wcells_len]; omega), wcells_at l i j hi hj]
theorem wcs_cnt {l : List Wd} (h : l.length ≤ 4) : (wcs l)[16]? = some (.int .i64 (l.length : Int)) := by
  unfold wcs
  rw [List.getElem?_append_right (by rw [wcells_len]; omega), wcells_len, List.getElem?_drop, show l.length * 4 + (16 - l.length * 4) = 16 by omega]
  rfl
theorem Wn.of {w : World} {b : Nat} {l : List Wd} (h : w.rangeAt b 0 (wcs l)) (hl : l.length ≤ 4) : Wn w b l := by
  have key : ∀ k u, (wcs l)[k]? = some u → w.cell? ⟨b, k, none⟩ = some u := fun k u hu => by have := h k u hu; rwa [Nat.zero_add] at this
  refine ⟨fun i hi => ?_, key 16 _ (wcs_cnt hl)⟩
  rw [getW l i hi]
  exact ⟨key _ _ (by have := wcs_at hl i 0 hi (by omega); exact this), key _ _ (wcs_at hl i 1 hi (by omega)), key _ _ (wcs_at hl i 2 hi (by omega)), key _ _ (wcs_at hl i 3 hi (by omega))⟩

theorem run_copy_cells4 {P : Program} (w : World) (dT sT ty elem : TypeId) (b o dLen dCap : Nat) (a : Addr) (sLen sCap n : Nat) (cs : List Value)
    (hu : P.underlying dT = some (.slice elem)) (hs : (P.info? elem).map (·.size) = some 4) (hmin : Nat.min sLen dLen = n) (hn : cs.length = n * 4)
    (hsrc : ∀ j v, cs[j]? = some v → w.cell? (a.add j) = some v) (hc : w.there b o cs.length) (h1 : ∀ v ∈ cs, v.oneCell' = true) :
    (Builtin.copy_ #[dT, sT] ty #[.slice (some ⟨b, o, none⟩) dLen dCap, .slice (some a) sLen sCap]).run P w = .ok (goInt n) (w.setCells b o cs) := by
  have hl := run_loadCells_list (P := P) w a cs hsrc
  have hst := run_storeCells_cells (P := P) b o cs 0 w (fun j hj => by simpa using (hc j hj).1) (fun j hj => by simpa using (hc j hj).2) h1
  cases hq : P.info? elem with
  | none => simp [hq] at hs
  | some i =>
    have hi : i.size = 4 := by simpa [hq] using hs
    rw [hn] at hl
    simp only [Nat.add_zero] at hst
    simp [Builtin.copy_, run_underlying hu, Builtin.lenOf, Builtin.firstCells, sizeOf, typeInfo, hq, hi, hmin, hl, hst]
theorem wpList_copy_at {P : Program} (w : World) {ops : Array Oper} {rest : List Oper} {o : Oper} {a : Act} {Q : Exit → Act → World → Prop} (hgd : o.guard = none) (d s : Operand) (t t' : TypeId)
    (ho : o.op = .call { callee := .builtin .copy, args := #[d, s], argTypes := #[t, t'] }) (v u : Value) (hd : a.eval d = v) (hs : a.eval s = u) {v' : Value} {w' : World}
    (hr : (Builtin.copy_ #[t, t'] o.type #[v, u]).run P w = .ok v' w') (h : wpList P ops Q rest (a.put o.dst v') w') : wpList P ops Q (o :: rest) a w :=
  wpList_plain hgd fun _ hK => by
    unfold Oper.wp execOp
    simp only [ho, resolve, invoke, builtin, Sem.run_bind, Sem.run_pure, Result.andThen_ok, List.map_toArray, List.map_cons, List.map_nil, hd, hs, hr]
    exact hK _ _ h
theorem infoW : (Try.prog.info? 35).map (·.size) = some 4 := by
  obtain ⟨i0, hi, hz0, hz1, hz2⟩ := info_parts try_infoW
  rw [hi]; simp [hz1]
theorem info17 : (Try.prog.info? 45).map (·.size) = some 17 := by kernel_rfl
theorem at_st {ops : Array Oper} {Q : Exit → Act → World → Prop} {rest : List Oper} {a : Act} {w : World} {d : Option Tmp} {u : TypeId} {x y : Operand} {p : String} {af : Array Edge} {gd : Option (Nat × Bool)}
    (h : Hid (wpList Try.prog ops Q (⟨d, .store 45 x y, u, p, af, gd⟩ :: rest) a w)) : wpList Try.prog ops Q (⟨d, .store 45 x y, u, p, af, gd⟩ :: rest) a w := h
theorem at_ld {ops : Array Oper} {Q : Exit → Act → World → Prop} {rest : List Oper} {a : Act} {w : World} {d : Option Tmp} {u : TypeId} {x : Operand} {p : String} {af : Array Edge} {gd : Option (Nat × Bool)}
    (h : Hid (wpList Try.prog ops Q (⟨d, .load 45 x, u, p, af, gd⟩ :: rest) a w)) : wpList Try.prog ops Q (⟨d, .load 45 x, u, p, af, gd⟩ :: rest) a w := h
theorem below_setCells {B : Nat} {w : World} {b : Nat} : ∀ (vs : List Value) (o : Nat) (w' : World), Below B w w' → B ≤ b → Below B w (w'.setCells b o vs)
  | [], _, _, h, _ => h
  | v :: r, o, w', h, hb => below_setCells (b := b) r (o + 1) (w'.setCell ⟨b, o, none⟩ v) (h.setCell (p := ⟨b, o, none⟩) hb v) hb

abbrev zW : Array Value := #[.int .i64 0, .int .i64 0, .int .i64 0, .int .i64 0, .int .i64 0, .int .i64 0, .int .i64 0, .int .i64 0, .int .i64 0, .int .i64 0, .int .i64 0, .int .i64 0, .int .i64 0, .int .i64 0, .int .i64 0, .int .i64 0, .int .i64 0]
theorem zW_one : zW.all (·.oneCell') = true := by kernel_rfl
theorem there_heap {w : World} {b : Nat} {C : Array Value} {t : TypeId} (h : w.heap[b]? = some (.cells C t (0, 0))) (n : Nat) (hn : n ≤ C.size) : w.there b 0 n := fun j hj => by
  rw [Nat.zero_add]
  refine ⟨?_, by simp [World.frozen?, h]⟩
  rw [cell_of_row w b j C t (0, 0) h]
  simp; omega
theorem load17 {w : World} {b : Nat} {cs : List Value} (h : w.rangeAt b 0 cs) (hl : cs.length = 17) : (loadVar 45 ⟨b, 0, none⟩).run Try.prog w = .ok (.agg cs.toArray) w :=
  run_loadVar_mid w b 0 45 cs _ h Try.underlying45 rfl (by rw [hl]; exact info17)
def Gave (w : World) (cs : List Value) (q : Bool) (e : Ending) (w' : World) : Prop := e = .returned (.tuple #[.agg cs.toArray, .bool q]) ∧ Below w.heap.size w w'
abbrev nW (n : Nat) : Array Value := #[.int .i64 0, .int .i64 0, .int .i64 0, .int .i64 0, .int .i64 0, .int .i64 0, .int .i64 0, .int .i64 0, .int .i64 0, .int .i64 0, .int .i64 0, .int .i64 0, .int .i64 0, .int .i64 0, .int .i64 0, .int .i64 0, .int .i64 (n : Int)]
theorem nW_one (n : Nat) : (nW n).all (·.oneCell') = true :=
  all_oneCell_toArray (cs := z16 ++ [Value.int .i64 (n : Int)]) (by intro v hv; simp [z16] at hv; rcases hv with rfl | rfl <;> rfl)
/-- The array with its count is written, then the list copied into it. -/
theorem copied {w X : World} {xb rb g o c : Nat} {l : List Wd} (hl : l.length ≤ 4) (cs : List Value) (hcs : cs = z16 ++ [Value.int .i64 (l.length : Int)]) (T2 : X.there xb 0 17) (T3 : X.there rb 0 17) (hne : rb ≠ xb) (hb : Below w.heap.size w X) (hx : w.heap.size ≤ xb)
    (hw : Wds X (.slice (some ⟨g, o, none⟩) l.length c) l) (hg : g < xb) :
    (∀ ty, (Builtin.copy_ #[25, 25] ty #[.slice (some ⟨xb, 0, none⟩) 4 4, .slice (some ⟨g, o, none⟩) l.length c]).run Try.prog (X.setCells xb 0 cs) = .ok (goInt (l.length : Int)) ((X.setCells xb 0 cs).setCells xb 0 (wcells l))) ∧
    ((X.setCells xb 0 cs).setCells xb 0 (wcells l)).rangeAt xb 0 (wcs l) ∧ ((X.setCells xb 0 cs).setCells xb 0 (wcells l)).there rb 0 17 ∧ Below w.heap.size w ((X.setCells xb 0 cs).setCells xb 0 (wcells l)) := by
  have hcl : cs.length = 17 := by rw [hcs]; rfl
  have hwl := wcells_len l
  have t1 := World.there_setCells T2 xb 0 cs
  have r1 := World.rangeAt_setCells_same X xb 0 cs (by rw [hcl]; exact T2)
  have hts : (X.setCells xb 0 cs).there xb 0 (wcells l).length := fun j hj => t1 j (by omega)
  refine ⟨fun ty => ?_, fun j v hv => ?_, World.there_setCells (World.there_setCells T3 xb 0 cs) xb 0 _, below_setCells _ _ _ (below_setCells _ _ _ hb hx) hx⟩
  · refine run_copy_cells4 _ _ _ ty 35 xb 0 4 4 ⟨g, o, none⟩ l.length c l.length (wcells l) Try.underlying25 infoW (by simp only [Nat.min_def]; split <;> omega) hwl (fun j v hv => ?_) hts (wcells_one l)
    rw [Addr.add_lit, World.cell?_setCells_out xb cs 0 X _ (fun h _ => by simp only at h; omega)]
    exact Wds.cells hw j v hv
  · rw [Nat.zero_add]
    by_cases hj : j < (wcells l).length
    · have := World.cell?_setCells_in xb (wcells l) 0 (X.setCells xb 0 cs) (fun i hi => (hts i hi).1) j hj
      rw [Nat.zero_add] at this
      rw [this, ← hv]
      unfold wcs
      rw [List.getElem?_append_left hj, List.getElem?_eq_getElem hj]
    · rw [World.cell?_setCells_out xb (wcells l) 0 _ _ (fun _ _ => .inr (by simp only; omega))]
      have e : (wcs l)[j]? = cs[j]? := by
        unfold wcs
        rw [List.getElem?_append_right (l₁ := wcells l) (by omega), List.getElem?_drop, hwl, show l.length * 4 + (j - l.length * 4) = j by omega, hcs]
      have := r1 j v (e.symm.trans hv)
      rwa [Nat.zero_add] at this

set_option maxRecDepth 100000 in
set_option maxHeartbeats 4000000 in
theorem with_no (v : Value) (l : List Wd) (i : Int) (w : World) (h : Wds w v l) (hl : l.length ≤ 1048576) (hn : ¬ wat l i) :
    Calls Try.prog 31 #[v, .int .i64 i] w (Gave w zW.toList false) := by
  have U : Below w.heap.size w (w.alloc (.cells zW 45)) := (Below.refl _ _).alloc (Nat.le_refl _) _
  have CV := Lib.hid (iwv_any v l (w.alloc (.cells zW 45)) (h.below U) hl)
  have HZ := Lib.hid (heap_alloc_last w (.cells zW 45))
  have HB := Lib.hid U
  have hsz : (w.alloc (.cells zW 45)).heap.size = w.heap.size + 1 := by simp
  have HS := Lib.hid hsz
  obtain ⟨a, c, rfl, _, _⟩ := h
  have CU := Lib.hid (upTo_any i ((l.length : Int) - 1))
  have hwl : wrap64 ((l.length : Int) - 1) = (l.length : Int) - 1 := by unfold wrap64; omega
  have HF : Hid (decide (wok l) = true → decide (0 ≤ i ∧ i ≤ (l.length : Int) - 1) = false) := Lib.hid fun h => decide_eq_false fun k => hn ⟨of_decide_eq_true h, k⟩
  clear hn U hsz
  generalize decide (wok l) = q at CV HF
  generalize decide (0 ≤ i ∧ i ≤ (l.length : Int) - 1) = q2 at CU HF
  have FIN : Hid (∀ W1, Below (w.alloc (.cells zW 45)).heap.size (w.alloc (.cells zW 45)) W1 → W1.there w.heap.size 0 17 ∧ Below w.heap.size w (W1.setCells w.heap.size 0 zW.toList) ∧ (W1.setCells w.heap.size 0 zW.toList).rangeAt w.heap.size 0 zW.toList) := Lib.hid fun W1 hb => by
    have h1 : W1.heap[w.heap.size]? = some (.cells zW 45 (0, 0)) := (hb.block _ (by rw [HS.out]; omega)).trans HZ.out
    have h2 := there_heap h1 17 (by simp)
    exact ⟨h2, below_setCells _ _ _ (HB.out.trans (hb.mono HB.out.size)) (Nat.le_refl _), World.rangeAt_setCells_same _ _ _ _ h2⟩
  go_enter Try.func31, Try.ntmps31
  go_wp2_with (with_reducible refine at_st ?_)
  refine CV.out.mono ?_
  rintro e W1 ⟨rfl, hb1⟩
  obtain ⟨T1, B1, R1⟩ := FIN.out W1 hb1
  have H1 := Lib.hid T1
  have H2 := Lib.hid B1
  have H3 := Lib.hid R1
  clear FIN hb1 T1 B1 R1
  cases q
  · go_wp2_with (with_reducible refine at_st ?_)
    refine unhold ?_
    refine wpList_store_mid rfl 45 _ _ rfl w.heap.size 0 zW rfl rfl H1.out info17 zW_one ?_
    generalize W1.setCells w.heap.size 0 zW.toList = W2 at H2 H3 ⊢
    go_wp2_with fail
    refine bodyPost_ret (v := .tuple #[.agg zW.toList.toArray, .bool false]) ?hr rfl ?_
    case hr => rw [results_cell_tmp rfl]; simp [asAddr, Result.andThen, load17 H3.out rfl]
    exact ⟨rfl, H2.out⟩
  · have hq2 := HF.out rfl
    subst hq2
    go_wp2_with (with_reducible refine at_st ?_)
    refine (CU.out _).mono ?_
    rintro e W2 ⟨rfl, rfl⟩
    go_wp2_with (with_reducible refine at_st ?_)
    refine unhold ?_
    refine wpList_store_mid rfl 45 _ _ rfl w.heap.size 0 zW rfl rfl H1.out info17 zW_one ?_
    generalize W1.setCells w.heap.size 0 zW.toList = W2 at H2 H3 ⊢
    go_wp2_with fail
    refine bodyPost_ret (v := .tuple #[.agg zW.toList.toArray, .bool false]) ?hr rfl ?_
    case hr => rw [results_cell_tmp rfl]; simp [asAddr, Result.andThen, load17 H3.out rfl]
    exact ⟨rfl, H2.out⟩

set_option maxRecDepth 100000 in
set_option maxHeartbeats 4000000 in
theorem with_yes (v : Value) (l : List Wd) (i : Int) (w : World) (h : Wds w v l) (hat : wat l i) :
    Calls Try.prog 31 #[v, .int .i64 i] w (Gave w (wcs l) true) := by
  have hl4 : l.length ≤ 4 := hat.1.1.2
  have hl1 : 1 ≤ l.length := hat.1.1.1
  have U : Below w.heap.size w (w.alloc (.cells zW 45)) := (Below.refl _ _).alloc (Nat.le_refl _) _
  have CV := Lib.hid (iwv_any v l (w.alloc (.cells zW 45)) (h.below U) (by omega))
  have HZ := Lib.hid (heap_alloc_last w (.cells zW 45))
  have HB := Lib.hid U
  have hsz : (w.alloc (.cells zW 45)).heap.size = w.heap.size + 1 := by simp
  have HS := Lib.hid hsz
  have HW := Lib.hid h
  obtain ⟨a, c, rfl, _, hg⟩ := h
  have CU := Lib.hid (upTo_any i ((l.length : Int) - 1))
  have hwl : wrap64 ((l.length : Int) - 1) = (l.length : Int) - 1 := by unfold wrap64; omega
  rw [decide_eq_true hat.1] at CV
  rw [decide_eq_true hat.2] at CU
  obtain ⟨g, o, rfl, _⟩ := hg (by rintro rfl; simp at hl1)
  have HAT := Lib.hid hat
  clear hat U hsz
  go_enter Try.func31, Try.ntmps31
  go_wp2_with (with_reducible refine at_st ?_)
  refine CV.out.mono ?_
  rintro e W1 ⟨rfl, hb1⟩
  have B1 := Lib.hid (HB.out.trans (hb1.mono HB.out.size))
  have R1 : Hid (W1.heap[w.heap.size]? = some (.cells zW 45 (0, 0))) := Lib.hid ((hb1.block _ (by rw [HS.out]; omega)).trans HZ.out)
  clear hb1
  go_wp2_with (with_reducible refine at_st ?_)
  refine (CU.out _).mono ?_
  rintro e W2 ⟨rfl, rfl⟩
  go_wp2_with (with_reducible refine at_st ?_)
  refine unhold ?_
  have hsz1 : (W1.alloc (.cells zW 45)).heap.size = W1.heap.size + 1 := by simp
  have hl1 : w.heap.size < W1.heap.size := (Array.getElem?_eq_some_iff.1 R1.out).1
  have T2 := there_heap (heap_alloc_last W1 (.cells zW 45)) 17 (by simp)
  have T3 := World.there_alloc (there_heap R1.out 17 (by simp)) (.cells zW 45)
  have B2 := B1.out.alloc B1.out.size (.cells zW 45)
  have W2' := (HW.out.below B1.out).below ((Below.refl W1.heap.size W1).alloc (Nat.le_refl _) (.cells zW 45))
  have hgb : g < W1.heap.size := by
    have k := HW.out.below B1.out
    obtain ⟨_, _, e, _, k⟩ := k
    obtain ⟨g', o', e2, k⟩ := k (by rintro rfl; simp at hl1)
    simp only [Value.slice.injEq] at e
    rw [← e.1] at e2
    simp only [Option.some.injEq, Addr.mk.injEq] at e2
    rw [e2.1]
    exact (k 0 (by omega)).lt
  refine wpList_store_mid rfl 45 _ _ rfl W1.heap.size 0 (nW l.length) rfl rfl T2 info17 (nW_one _) ?_
  have KX := copied hl4 (nW l.length).toList rfl T2 T3 (by omega) B2 (Nat.le_of_lt hl1) W2' hgb
  generalize (W1.alloc (.cells zW 45)).setCells W1.heap.size 0 (nW l.length).toList = X2 at KX ⊢
  obtain ⟨hc, k⟩ := KX
  have KK := Lib.hid k
  clear T2 T3 B2 W2' hgb k hsz1
  go_wp2_with (with_reducible refine at_ld ?_)
  refine unhold ?_
  generalize X2.setCells W1.heap.size 0 (wcells l) = X3 at KK ⊢
  obtain ⟨k1, k2, k3⟩ := KK.out
  clear hc
  refine wpList_load_mid rfl 45 _ rfl W1.heap.size 0 rfl (wcs l) _ k1 Try.underlying45 rfl (by rw [wcs_len hl4]; exact info17) ?_
  clear k1 k2 k3
  go_wp2_with (with_reducible refine at_st ?_)
  refine unhold ?_
  obtain ⟨k1, k2, k3⟩ := KK.out
  have hs17 : (wcs l).toArray.size = 17 := by simpa using wcs_len hl4
  refine wpList_store_mid rfl 45 _ _ rfl w.heap.size 0 (wcs l).toArray rfl rfl (by rw [hs17]; exact k2) (by rw [hs17]; exact info17) (all_oneCell_toArray (wcs_one l)) ?_
  have E1 := Lib.hid (World.rangeAt_setCells_same X3 w.heap.size 0 (wcs l) (by rw [wcs_len hl4]; exact k2))
  have E2 := Lib.hid (below_setCells (wcs l) 0 X3 k3 (Nat.le_refl _))
  rw [List.toList_toArray]
  generalize X3.setCells w.heap.size 0 (wcs l) = X4 at E1 E2 ⊢
  clear k1 k2 k3
  go_wp2_with fail
  refine bodyPost_ret (v := .tuple #[.agg (wcs l).toArray, .bool true]) ?hr rfl ?_
  case hr => rw [results_cell_tmp rfl]; simp [asAddr, Result.andThen, load17 E1.out (wcs_len hl4)]
  exact ⟨rfl, E2.out⟩
end Go.Proofs.Ytfggldholaibeaa
