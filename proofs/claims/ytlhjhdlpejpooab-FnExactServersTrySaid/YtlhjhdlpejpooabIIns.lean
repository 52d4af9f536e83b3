/- slices.Insert of one ticket. -/
import Derived.Test.YtlhjhdlpejpooabIClone
import Derived.Test.YtlhjhdlpejpooabTcMem
import Derived.Lib.AppendZeros
import Derived.StillTailTactics
import Derived.Lib.AppendZerosOnto
import Derived.Lib.Overlaps
import Derived.Laws.Externs
import Derived.Laws.CopyRow
namespace Go.Proofs.Ytlhjhdlpejpooab
open Go.RowKit
set_option linter.unusedVariables false
set_option linter.unusedSimpArgs false

theorem run_copy_row2 {P : Program} (w : World) (dT sT ty elem : TypeId) (g o dLen dCap : Nat) (a : Addr) (sLen sCap n : Nat) (cur : Array Value) (t : TypeId) (cs : List Value)
    (hu : P.underlying dT = some (.slice elem)) (hs : (P.info? elem).map (·.size) = some 2)
    (hg : w.heap[g]? = some (.cells cur t (0, 0))) (hmin : Nat.min sLen dLen = n) (hn : cs.length = n * 2)
    (hsrc : ∀ j v, cs[j]? = some v → w.cell? (a.add j) = some v) (hfit : o + cs.length ≤ cur.size) (h1 : ∀ v ∈ cs, v.oneCell' = true) :
    (Builtin.copy_ #[dT, sT] ty #[.slice (some ⟨g, o, none⟩) dLen dCap, .slice (some a) sLen sCap]).run P w =
      .ok (goInt n) (w.setRow g (cur.toList.take o ++ cs ++ cur.toList.drop (o + cs.length)).toArray) := by
  have hl := run_loadCells_list (P := P) w a cs hsrc
  have hst := run_storeCells_at P g o t cs 0 cur w hg (by simpa using hfit) h1
  cases hq : P.info? elem with
  | none => simp [hq] at hs
  | some i =>
    have hi : i.size = 2 := by simpa [hq] using hs
    rw [hn] at hl
    simp [Builtin.copy_, run_underlying hu, Builtin.lenOf, Builtin.firstCells, sizeOf, typeInfo, hq, hi, hmin, hl, hst]
theorem wpList_copy_at {P : Program} (w : World) {ops : Array Oper} {rest : List Oper} {o : Oper} {a : Act} {Q : Exit → Act → World → Prop} (hgd : o.guard = none) (d s : Operand) (t t' : TypeId)
    (ho : o.op = .call { callee := .builtin .copy, args := #[d, s], argTypes := #[t, t'] }) (v u : Value) (hd : a.eval d = v) (hs : a.eval s = u) {v' : Value} {w' : World}
    (hr : (Builtin.copy_ #[t, t'] o.type #[v, u]).run P w = .ok v' w') (h : wpList P ops Q rest (a.put o.dst v') w') : wpList P ops Q (o :: rest) a w :=
  wpList_plain hgd fun _ hK => by
    unfold Oper.wp execOp
    simp only [ho, resolve, invoke, builtin, Sem.run_bind, Sem.run_pure, Result.andThen_ok, List.map_toArray, List.map_cons, List.map_nil, hd, hs, hr]
    exact hK _ _ h
theorem step_copy_at {P : Program} {ops : Array Oper} {o : Oper} {a : Act} {w : World} {K : Act → World → Prop} {Q : Exit → Act → World → Prop} {E : Prop}
    (hg : o.guard = none) (d x : Operand) (dT sT : TypeId) (hop : o.op = Op.call { callee := Callee.builtin Builtin.copy, args := #[d, x], argTypes := #[dT, sT] })
    (v u : Value) (hd : a.eval d = v) (hx : a.eval x = u) {v' : Value} {w' : World} (hr : (Builtin.copy_ #[dT, sT] o.type #[v, u]).run P w = .ok v' w') (hK : K (a.put o.dst v') w') :
    if Region.wanted o (yielded ops a.tmps) = true then Oper.wp P o a w K Q else E := by
  have hw : Region.wanted o (yielded ops a.tmps) = true := by simp [Region.wanted, hg]
  rw [if_pos hw]
  unfold Oper.wp
  simp [execOp, hop, resolve, invoke, builtin, hd, hx, hr, Result.andThen]
  exact hK
theorem info2 : (Try.prog.info? 38).map (·.size) = some 2 := by
  obtain ⟨i0, hi, hz0, hz1, hz2⟩ := info_parts try_infoTicket
  rw [hi]; simp [hz1]
/-- What two copies leave: the cells ahead, the ticket, the cells behind. -/
theorem ins_cells {cur : List Value} {l : List Tic} {p : Nat} {x y : Int} (hp : p ≤ l.length) (hc : cur.take (p * 2) = tcells (l.take p)) (hsz : (l.length + 1) * 2 ≤ cur.length) :
    ((cur.take (p * 2) ++ ([.int .i64 x, .int .i64 y] : List Value) ++ (tcells (l.drop p) ++ cur.drop ((l.length + 1) * 2))).take ((l.length + 1) * 2)) = tcells (l.take p ++ (x, y) :: l.drop p) := by
  have e : tcells (l.take p ++ (x, y) :: l.drop p) = tcells (l.take p) ++ [.int .i64 x, .int .i64 y] ++ tcells (l.drop p) := by
    rw [tcells_app]; simp [tcells]
  rw [e, hc, ← List.append_assoc, List.take_append_of_le_length, List.take_of_length_le]
  · simp [tcells_len]; omega
  · simp [tcells_len]; omega

def Inserted (B : Nat) (w : World) (v : Value) (l : List Tic) (p : Nat) (x y : Int) (e : Ending) (w' : World) : Prop :=
  ∃ v', e = .returned v' ∧ OwnTc w' B v' (l.take p ++ (x, y) :: l.drop p) ∧ w.grownBy w' v.ownBlock ∧ (v'.ownBlock = v.ownBlock ∨ ∃ k, v'.ownBlock = some k ∧ w.heap.size ≤ k)
theorem grownBy_setRow {w W : World} {g : Nat} {row : Option Nat} (h : w.grownBy W row) (hg : some g = row ∨ w.heap.size ≤ g) (cur : Array Value) : w.grownBy (W.setRow g cur) row := by
  refine ⟨h.os, h.tape, h.output, ?_, fun k hk hr => ?_⟩
  · simpa [World.setRow] using h.size
  · have := h.block k hk hr
    have hne : g ≠ k := by
      rintro rfl
      rcases hg with hg | hg
      · exact hr hg
      · omega
    simp only [World.setRow]
    rw [Array.getElem?_modify, if_neg hne]
    exact this
theorem grownBy_drewT {w W : World} {row : Option Nat} (h : w.grownBy W row) : w.grownBy W.drew row := ⟨h.os, h.tape, h.output, h.size, h.block⟩

set_option maxRecDepth 100000 in
set_option maxHeartbeats 4000000 in
theorem insert_end (v : Value) (l : List Tic) (vb : Nat) (x y : Int) (B : Nat) (w : World) (h : OwnTc w B v l) (hl : l.length ≤ 8) (hB : B ≤ w.heap.size) (hv : w.heap[vb]? = some (.cells #[.int .i64 x, .int .i64 y] 38 (0, 0))) :
    Calls Try.prog 56 #[v, .int .i64 (l.length : Int), .slice (some ⟨vb, 0, none⟩) 1 1] w (Inserted B w v l l.length x y) := by
  have hcv : CellsT w vb 0 [(x, y)] := fun q u hu => by
    have hq : q < 2 := by have := (List.getElem?_eq_some_iff.1 hu).1; rw [tcells_len] at this; simpa using this
    rw [Nat.zero_add, ← hu]
    simp only [World.cell?, hv]
    match q, hq with
    | 0, _ => rfl
    | 1, _ => rfl
  obtain ⟨v', w', hr, h1, h2, h3, h4⟩ := append_tc w 26 B v l [(x, y)] h (.slice (some ⟨vb, 0, none⟩) 1 1) (.inr ⟨_, 1, rfl, fun _ => ⟨vb, 0, rfl, hcv⟩⟩) (by simp; omega) hB
  have HR := Lib.hid hr
  have HO := Lib.hid h1
  have HB := Lib.hid h2
  have HB2 : Hid (v'.ownBlock = v.ownBlock ∨ ∃ k, v'.ownBlock = some k ∧ w.heap.size ≤ k) := Lib.hid (h3.imp id fun e => ⟨_, e, Nat.le_refl _⟩)
  clear hr h1 h2 h3 h4 hcv
  have hcap : ∃ a c, v = .slice a l.length c ∧ (a = none → l.length = 0 ∧ c = 0) ∧ l.length ≤ c := by
    obtain ⟨h0, ⟨h1, h2⟩ | ⟨g, c, cur, he, _, _, hc, _⟩⟩ := h
    · exact ⟨none, 0, by rw [h2]; exact h1, fun _ => ⟨h2, rfl⟩, by omega⟩
    · exact ⟨_, c, he, (fun h => by cases h), hc⟩
  obtain ⟨a, c, rfl, ha, hlc⟩ := hcap
  have hlc' : (l.length : Int) ≤ (c : Int) := by omega
  have hll : (0 : Int) ≤ (l.length : Int) := by omega
  have HA := Lib.hid ha
  clear h hv ha
  go_enter Try.func56, Try.ntmps56
  go_wp2_with (at_builtin; refine Lib.wpList_append_run _ rfl _ _ _ _ rfl _ _ rfl rfl _ _ HR.out ?_)
  all_goals
    go_ret
    exact ⟨v', rfl, by simpa using HO.out, by cases a <;> exact HB.out, by cases a <;> exact HB2.out⟩

theorem below_setRow {B g : Nat} {w W : World} (h : Below B w W) (hg : B ≤ g) (cur : Array Value) : Below B w (W.setRow g cur) := by
  refine ⟨h.os, h.tape, h.output, ?_, fun k hk => ?_⟩
  · simpa [World.setRow] using h.size
  · have := h.block k hk
    simp only [World.setRow]
    rw [Array.getElem?_modify, if_neg (by omega)]
    exact this
set_option maxRecDepth 100000 in
set_option maxHeartbeats 8000000 in
theorem insert_room (g c p : Nat) (l : List Tic) (vb : Nat) (x y : Int) (B : Nat) (w : World) (h : OwnTc w B (.slice (some ⟨g, 0, none⟩) l.length c) l) (hl : l.length ≤ 8) (hp : p < l.length) (hB : B ≤ w.heap.size) (hv : w.heap[vb]? = some (.cells #[.int .i64 x, .int .i64 y] 38 (0, 0))) (hvg : vb ≠ g) (hroom : l.length + 1 ≤ c) :
    Calls Try.prog 56 #[.slice (some ⟨g, 0, none⟩) l.length c, .int .i64 (p : Int), .slice (some ⟨vb, 0, none⟩) 1 1] w (Inserted B w (.slice (some ⟨g, 0, none⟩) l.length c) l p x y) := by
  obtain ⟨_, ⟨h1, _⟩ | ⟨g', c', cur, he, hg, hb, hc, hcm, hsz, ht⟩⟩ := h
  · cases h1
  injection he with e1 e2 e3
  injection e1 with e1
  injection e1 with e1
  subst e1; subst e3
  have hcur : cur.toList.length = c * 2 := by simpa using hsz
  have htk : cur.toList.take (p * 2) = tcells (l.take p) := by rw [← tcells_take, ← ht, List.take_take, Nat.min_eq_left (by omega)]
  have hdl : (tcells (l.drop p)).length = (l.length - p) * 2 := by rw [tcells_len, List.length_drop]
  -- the first copy
  obtain ⟨cur1, hcur1⟩ : ∃ cur1, cur1 = (cur.toList.take ((p + 1) * 2) ++ tcells (l.drop p) ++ cur.toList.drop ((p + 1) * 2 + (tcells (l.drop p)).length)).toArray := ⟨_, rfl⟩
  have hsrc : ∀ (W : World), W.heap[g]? = some (.cells cur 38 (0, 0)) → ∀ j u, (tcells (l.drop p))[j]? = some u → W.cell? ((⟨g, p * 2, none⟩ : Addr).add j) = some u := by
    intro W hW j u hu
    rw [Addr.add_lit]
    have e : tcells l = tcells (l.take p) ++ tcells (l.drop p) := by rw [← tcells_app, List.take_append_drop]
    have hlp : (tcells (l.take p)).length = p * 2 := by rw [tcells_len, List.length_take, Nat.min_eq_left (by omega)]
    have hj : j < (l.length - p) * 2 := by rw [← hdl]; exact (List.getElem?_eq_some_iff.1 hu).1
    have h2 : (tcells l)[p * 2 + j]? = some u := by rw [e, List.getElem?_append_right (by omega), hlp, show p * 2 + j - p * 2 = j from by omega]; exact hu
    rw [← ht, List.getElem?_take_of_lt (by omega)] at h2
    simp only [World.cell?, hW]
    rw [← Array.getElem?_toList]; exact h2
  have C1 : Hid (∀ (W : World), W.heap[g]? = some (.cells cur 38 (0, 0)) → ∀ ty dc sc, (Builtin.copy_ #[26, 26] ty #[.slice (some ⟨g, (p + 1) * 2, none⟩) (l.length - p) dc, .slice (some ⟨g, p * 2, none⟩) (l.length + 1 - p) sc]).run Try.prog W = .ok (goInt ((l.length - p : Nat) : Int)) (W.setRow g cur1)) := Lib.hid fun W hW ty dc sc => by
    rw [hcur1]
    exact run_copy_row2 W _ _ ty 38 g ((p + 1) * 2) (l.length - p) dc ⟨g, p * 2, none⟩ (l.length + 1 - p) sc (l.length - p) cur 38 (tcells (l.drop p)) Try.underlying26 info2 hW (by simp only [Nat.min_def]; split <;> omega) hdl (hsrc W hW) (by rw [hdl]; omega) (fun u hu => tcells_one _ u hu)
  -- the second copy
  obtain ⟨cur2, hcur2⟩ : ∃ cur2, cur2 = (cur1.toList.take (p * 2) ++ ([.int .i64 x, .int .i64 y] : List Value) ++ cur1.toList.drop (p * 2 + 2)).toArray := ⟨_, rfl⟩
  have hA : (cur.toList.take ((p + 1) * 2)).length = (p + 1) * 2 := by rw [List.length_take]; omega
  have hl1 : cur1.toList = cur.toList.take ((p + 1) * 2) ++ (tcells (l.drop p) ++ cur.toList.drop ((l.length + 1) * 2)) := by
    rw [hcur1, hdl, show (p + 1) * 2 + (l.length - p) * 2 = (l.length + 1) * 2 from by omega, List.append_assoc]
  have hs1 : cur1.size = cur.size := by
    rw [← Array.length_toList, hl1, List.length_append, List.length_append, hA, hdl, List.length_drop]; omega
  have hl2 : cur2.toList = cur.toList.take (p * 2) ++ ([.int .i64 x, .int .i64 y] : List Value) ++ (tcells (l.drop p) ++ cur.toList.drop ((l.length + 1) * 2)) := by
    rw [hcur2, hl1, show p * 2 + 2 = (cur.toList.take ((p + 1) * 2)).length from by omega, List.drop_left, List.take_append_of_le_length (by omega), List.take_take, Nat.min_eq_left (by omega)]
  have hs2 : cur2.size = cur.size := by
    rw [← Array.length_toList, hl2]
    simp only [List.length_append, List.length_cons, List.length_nil, List.length_take, List.length_drop, hdl]
    omega
  have htake : cur2.toList.take ((l.length + 1) * 2) = tcells (l.take p ++ (x, y) :: l.drop p) := by
    rw [hl2]; exact ins_cells (by omega) htk (by omega)
  have C2 : Hid (∀ (W : World), W.heap[g]? = some (.cells cur1 38 (0, 0)) → W.heap[vb]? = some (.cells #[.int .i64 x, .int .i64 y] 38 (0, 0)) → ∀ ty dc, (Builtin.copy_ #[26, 26] ty #[.slice (some ⟨g, p * 2, none⟩) (l.length + 1 - p) dc, .slice (some ⟨vb, 0, none⟩) 1 1]).run Try.prog W = .ok (goInt ((1 : Nat) : Int)) (W.setRow g cur2)) := Lib.hid fun W hW hV ty dc => by
    rw [hcur2]
    exact run_copy_row2 W _ _ ty 38 g (p * 2) (l.length + 1 - p) dc ⟨vb, 0, none⟩ 1 1 1 cur1 38 [.int .i64 x, .int .i64 y] Try.underlying26 info2 hW (by simp only [Nat.min_def]; split <;> omega) rfl (fun j u hu => by
      have hj : j < 2 := (List.getElem?_eq_some_iff.1 hu).1
      rw [Addr.add_lit, Nat.zero_add, ← hu]
      simp only [World.cell?, hV]
      match j, hj with
      | 0, _ => rfl
      | 1, _ => rfl) (by simp only [List.length_cons, List.length_nil]; omega) (fun u hu => onet x y u hu)
  have hov : ∀ lb cb, (callFunc 78 #[.slice (some ⟨vb, 0, none⟩) 1 1, .slice (some ⟨g, (p + 1) * 2, none⟩) lb cb]).run Try.prog w = .ok (.value (.bool false)) w := fun lb cb => by
    rw [run_callFunc_extern Try.func78 (by kernel_rfl) (by kernel_rfl) (by kernel_rfl) (e := Extern.SlicesOverlaps.overlaps #[26, 26] #[4]) (by kernel_rfl),
      Lib.run_overlaps_apart w 26 4 38 Try.underlying26 2 Try.sizeOf38 ⟨vb, 0, none⟩ ⟨g, (p + 1) * 2, none⟩ 1 1 lb cb hvg 38 38 2 cur.size (by simp [World.shape?, hv]) (by simp [World.shape?, hb]) (by omega) (by simp [World.frozen?, hv]) (by simp [World.frozen?, hv])]
    rfl
  have hb1 : w.drew.heap[g]? = some (.cells cur 38 (0, 0)) := hb
  have hb2 : (w.drew.setRow g cur1).heap[g]? = some (.cells cur1 38 (0, 0)) := setRow_heap w.drew g cur cur1 38 _ hb
  have hv2 : (w.drew.setRow g cur1).heap[vb]? = some (.cells #[.int .i64 x, .int .i64 y] 38 (0, 0)) := by
    simp only [World.setRow]
    rw [Array.getElem?_modify, if_neg (fun e => hvg e.symm)]
    exact hv
  have CA := Lib.hid (fun ty dc sc => C1.out w.drew hb1 ty dc sc)
  have CB := Lib.hid (fun ty dc => C2.out (w.drew.setRow g cur1) hb2 hv2 ty dc)
  have HE : Hid (OwnTc ((w.drew.setRow g cur1).setRow g cur2) B (.slice (some ⟨g, 0, none⟩) (l.length + 1) c) (l.take p ++ (x, y) :: l.drop p)) := Lib.hid (by
    have hlen : (l.take p ++ (x, y) :: l.drop p).length = l.length + 1 := by simp; omega
    refine ⟨tcells_len _, .inr ⟨g, c, cur2, by rw [hlen], hg, setRow_heap (w.drew.setRow g cur1) g cur1 cur2 38 _ hb2, by rw [hlen]; exact hroom, hcm, by omega, by rw [hlen]; exact htake⟩⟩)
  have BE : Hid (w.grownBy ((w.drew.setRow g cur1).setRow g cur2) (some g)) := Lib.hid (grownBy_setRow (grownBy_setRow (grownBy_drewT (World.grownBy.refl w _)) (.inl rfl) _) (.inl rfl) _)
  have hw1 : IntKind.i64.wrap ((l.length : Int) + 1) = (l.length : Int) + 1 := IntWalk.i64_in _ (by omega)
  have hw2 : IntKind.i64.wrap ((p : Int) + 1) = (p : Int) + 1 := IntWalk.i64_in _ (by omega)
  have z1 : ¬ ((p : Int) = (l.length : Int)) := by omega
  have z1b : ((p : Int) == (l.length : Int)) = false := by rw [beq_eq_false_iff_ne]; exact z1
  have z2 : ¬ ((c : Int) < (l.length : Int) + 1) := by omega
  have z3 : (p : Int) ≤ (l.length : Int) := by omega
  have z4 : (l.length : Int) + 1 ≤ (c : Int) := by omega
  have z5 : (p : Int) + 1 ≤ (l.length : Int) + 1 := by omega
  have z6 : ¬ (c = p + 1) := by omega
  have z7 : ¬ (c = p) := by omega
  have z8 : (p : Int) ≤ (l.length : Int) + 1 := by omega
  have z9 : (0 : Int) ≤ (p : Int) + 1 := by omega
  have z10 : (0 : Int) ≤ (l.length : Int) + 1 := by omega
  have z11 : (l.length : Int) ≤ (c : Int) := by omega
  have t1 : ((l.length : Int) + 1).toNat = l.length + 1 := by omega
  have t2 : ((p : Int) + 1).toNat = p + 1 := by omega
  clear hb hv hcur hsz ht htk hdl hcur1 hcur2 hsrc hA hl1 hs1 hl2 hs2 htake C1 C2 hb1 hb2 hv2 hc hcm hg
  go_enter Try.func56, Try.ntmps56
  go_wp2_with (simp only [hov])
  refine wp_region_still_tail 8 (by kernel_rfl) (by kernel_rfl) ?_
  obtain ⟨W2, hW2⟩ : ∃ W2, ({ w with drawn := w.drawn + 1 } : World) = W2 := ⟨_, rfl⟩
  have hWd : w.drew = W2 := hW2
  rw [hW2]
  rw [hWd] at CA CB HE BE
  clear hW2 hWd hov
  simp only [List.take_succ_cons, List.take_zero, List.drop_succ_cons, List.drop_zero]
  iterate 8 still_step
  refine wpStill_nil ?_
  have ca := CA.out
  have cb := CB.out
  go_wp2_with fail
  go_ret
  exact ⟨_, rfl, HE.out, BE.out, .inl rfl⟩

set_option maxRecDepth 100000 in
set_option maxHeartbeats 8000000 in
theorem insert_grow (g c p : Nat) (l : List Tic) (vb : Nat) (x y : Int) (B : Nat) (w : World) (h : OwnTc w B (.slice (some ⟨g, 0, none⟩) l.length c) l) (hl : l.length ≤ 8) (hp : p < l.length) (hB : B ≤ w.heap.size) (hv : w.heap[vb]? = some (.cells #[.int .i64 x, .int .i64 y] 38 (0, 0))) (hroom : c < l.length + 1) :
    Calls Try.prog 56 #[.slice (some ⟨g, 0, none⟩) l.length c, .int .i64 (p : Int), .slice (some ⟨vb, 0, none⟩) 1 1] w (Inserted B w (.slice (some ⟨g, 0, none⟩) l.length c) l p x y) := by
  obtain ⟨_, ⟨h1, _⟩ | ⟨g', c', cur, he, hg, hb, hc, hcm, hsz, ht⟩⟩ := h
  · cases h1
  injection he with e1 e2 e3
  injection e1 with e1
  injection e1 with e1
  subst e1; subst e3
  obtain ⟨i0, hi0, hz0, hzs, hzb⟩ := info_parts try_infoTicket
  have hgw : g < w.heap.size := (Array.getElem?_eq_some_iff.1 hb).1
  have hvw : vb < w.heap.size := (Array.getElem?_eq_some_iff.1 hv).1
  have hlp : (tcells (l.take p)).length = p * 2 := by rw [tcells_len, List.length_take, Nat.min_eq_left (by omega)]
  have hdl : (tcells (l.drop p)).length = (l.length - p) * 2 := by rw [tcells_len, List.length_drop]
  have esp : tcells l = tcells (l.take p) ++ tcells (l.drop p) := by rw [← tcells_app, List.take_append_drop]
  have hcell : ∀ j u, (tcells l)[j]? = some u → ∀ W : World, W.heap[g]? = some (.cells cur 38 (0, 0)) → W.cell? ⟨g, j, none⟩ = some u := by
    intro j u hu W hW
    have hj : j < l.length * 2 := by rw [← tcells_len]; exact (List.getElem?_eq_some_iff.1 hu).1
    rw [← ht, List.getElem?_take_of_lt (by omega)] at hu
    simp only [World.cell?, hW]
    rw [← Array.getElem?_toList]; exact hu
  have hold : (Builtin.firstCells i0.size p (.slice (some ⟨g, 0, none⟩) p c)).run Try.prog w.drew = .ok (tcells (l.take p)).toArray w.drew := by
    rw [hzs]
    exact run_firstCells_some w.drew 2 p ⟨g, 0, none⟩ p c (tcells (l.take p)) hlp (fun j u hu => by
      rw [Addr.add_lit, Nat.zero_add]
      exact hcell j u (by rw [esp, List.getElem?_append_left (List.getElem?_eq_some_iff.1 hu).1]; exact hu) w.drew hb)
  obtain ⟨G, hG⟩ : ∃ G, G = grownCap w (l.length + 1) c 38 := ⟨_, rfl⟩
  obtain ⟨ROW, hROW⟩ : ∃ ROW : Array Value, ROW = (tcells (l.take p)).toArray ++ Builtin.zeroCells (Value.agg #[.int .i64 0, .int .i64 0]).cells (l.length + 1 - p) ++ Builtin.zeroCells (Value.agg #[.int .i64 0, .int .i64 0]).cells (G - (l.length + 1)) := ⟨_, rfl⟩
  obtain ⟨W1, hW1⟩ : ∃ W1, W1 = w.drew.alloc (.cells ROW 38) := ⟨_, rfl⟩
  have hrz : ∀ ty, (Builtin.append_ #[26, 3] ty #[.slice (some ⟨g, 0, none⟩) p c, .int .i64 ((l.length : Int) + 1 - (p : Int))]).run Try.prog w = .ok (.slice (some ⟨w.heap.size, 0, none⟩) (l.length + 1) G) W1 := fun ty => by
    have h := Lib.run_append_grow_zeros w 26 3 ty 38 i0 _ .i64 .i64 Try.underlying26 Try.underlying3 hi0 hz0 (some ⟨g, 0, none⟩) p c (tcells (l.take p)) hold (l.length + 1 - p) (by omega) (by omega) (by omega) (by omega) (by rw [hzb]; omega) (by rw [hzb, show p + (l.length + 1 - p) = l.length + 1 from by omega]; exact growslice_fits hroom (by omega))
    rw [show p + (l.length + 1 - p) = l.length + 1 from by omega] at h
    rw [show ((l.length : Int) + 1 - (p : Int)) = ((l.length + 1 - p : Nat) : Int) from by omega, hW1, hROW, hG]
    exact h
  have hGn : l.length + 1 ≤ G := by rw [hG]; exact grownCap_ge w _ _ _
  have hGm : G ≤ maxLen := by rw [hG]; exact grownCap_le_maxLen w (l.length + 1) c 38 (by unfold maxLen; omega)
  have hRs : ROW.size = G * 2 := by
    rw [hROW]
    simp only [Array.size_append, List.size_toArray, hlp, Builtin.zeroCells, Value.cells]
    simp
    omega
  have hRt : ROW.toList.take (p * 2) = tcells (l.take p) := by
    rw [hROW]
    simp only [Array.toList_append, List.toList_toArray, List.append_assoc]
    rw [← hlp, List.take_left']
    rfl
  have hN : W1.heap[w.heap.size]? = some (.cells ROW 38 (0, 0)) := by rw [hW1]; exact heap_alloc_new w.drew _
  have hold1 : ∀ k, k < w.heap.size → W1.heap[k]? = w.heap[k]? := fun k hk => by
    rw [hW1]
    show (w.heap.push _)[k]? = _
    rw [Array.getElem?_push, if_neg (by omega)]
  have hB1 : w.grownBy W1 (some g) := by rw [hW1]; exact (grownBy_drewT (World.grownBy.refl w _)).trans (World.grownBy_alloc w.drew _ _)
  clear hW1 hROW hold hG
  obtain ⟨N, hNe⟩ : ∃ N, N = w.heap.size := ⟨_, rfl⟩
  rw [← hNe] at hN hrz
  -- the copies
  obtain ⟨r1, hr1⟩ : ∃ r1, r1 = (ROW.toList.take (p * 2) ++ ([.int .i64 x, .int .i64 y] : List Value) ++ ROW.toList.drop (p * 2 + 2)).toArray := ⟨_, rfl⟩
  obtain ⟨r2, hr2⟩ : ∃ r2, r2 = (r1.toList.take ((p + 1) * 2) ++ tcells (l.drop p) ++ r1.toList.drop ((p + 1) * 2 + (tcells (l.drop p)).length)).toArray := ⟨_, rfl⟩
  have hRl : ROW.toList.length = G * 2 := by simpa using hRs
  have hA : (ROW.toList.take (p * 2)).length = p * 2 := by rw [List.length_take]; omega
  have hs1 : r1.size = G * 2 := by
    rw [hr1]
    simp only [List.size_toArray, List.length_append, hA, List.length_cons, List.length_nil, List.length_drop]
    omega
  have hl1 : r1.toList = ROW.toList.take (p * 2) ++ ([.int .i64 x, .int .i64 y] : List Value) ++ ROW.toList.drop (p * 2 + 2) := by rw [hr1]
  have hA1 : (ROW.toList.take (p * 2) ++ ([.int .i64 x, .int .i64 y] : List Value)).length = (p + 1) * 2 := by
    rw [List.length_append, hA]; simp only [List.length_cons, List.length_nil]; omega
  have hl2 : r2.toList = ROW.toList.take (p * 2) ++ ([.int .i64 x, .int .i64 y] : List Value) ++ (tcells (l.drop p) ++ ROW.toList.drop ((l.length + 1) * 2)) := by
    obtain ⟨AX, hAX⟩ : ∃ AX, AX = ROW.toList.take (p * 2) ++ ([.int .i64 x, .int .i64 y] : List Value) := ⟨_, rfl⟩
    rw [← hAX] at hl1 hA1 ⊢
    rw [hr2, hl1, hdl, List.take_left' hA1, ← List.drop_drop, List.drop_left' hA1, List.drop_drop, List.append_assoc, show p * 2 + 2 + (l.length - p) * 2 = (l.length + 1) * 2 from by omega]
  have hs2 : r2.size = G * 2 := by
    rw [← Array.length_toList, hl2, List.length_append, hA1, List.length_append, hdl, List.length_drop]; omega
  have htake : r2.toList.take ((l.length + 1) * 2) = tcells (l.take p ++ (x, y) :: l.drop p) := by
    rw [hl2]; exact ins_cells (by omega) hRt (by omega)
  have hvN : ∀ (W : World), W.heap[vb]? = some (.cells #[.int .i64 x, .int .i64 y] 38 (0, 0)) → ∀ j u, ([.int .i64 x, .int .i64 y] : List Value)[j]? = some u → W.cell? ((⟨vb, 0, none⟩ : Addr).add j) = some u := by
    intro W hV j u hu
    have hj : j < 2 := (List.getElem?_eq_some_iff.1 hu).1
    rw [Addr.add_lit, Nat.zero_add, ← hu]
    simp only [World.cell?, hV]
    match j, hj with
    | 0, _ => rfl
    | 1, _ => rfl
  have CA : Hid (∀ ty dc, (Builtin.copy_ #[26, 26] ty #[.slice (some ⟨N, p * 2, none⟩) (l.length + 1 - p) dc, .slice (some ⟨vb, 0, none⟩) 1 1]).run Try.prog W1 = .ok (goInt ((1 : Nat) : Int)) (W1.setRow N r1)) := Lib.hid fun ty dc => by
    rw [hr1]
    exact run_copy_row2 W1 _ _ ty 38 N (p * 2) (l.length + 1 - p) dc ⟨vb, 0, none⟩ 1 1 1 ROW 38 [.int .i64 x, .int .i64 y] Try.underlying26 info2 hN (by simp only [Nat.min_def]; split <;> omega) rfl (hvN W1 ((hold1 vb hvw).trans hv)) (by simp only [List.length_cons, List.length_nil]; omega) (fun u hu => onet x y u hu)
  have hN2 : (W1.setRow N r1).drew.heap[N]? = some (.cells r1 38 (0, 0)) := setRow_heap W1 N ROW r1 38 _ hN
  have hg2 : (W1.setRow N r1).drew.heap[g]? = some (.cells cur 38 (0, 0)) := by
    show (W1.setRow N r1).heap[g]? = _
    simp only [World.setRow]
    rw [Array.getElem?_modify, if_neg (by omega), hold1 g hgw]
    exact hb
  have CB : Hid (∀ ty dc sc, (Builtin.copy_ #[26, 26] ty #[.slice (some ⟨N, (p + 1) * 2, none⟩) (l.length - p) dc, .slice (some ⟨g, p * 2, none⟩) (l.length - p) sc]).run Try.prog (W1.setRow N r1).drew = .ok (goInt ((l.length - p : Nat) : Int)) ((W1.setRow N r1).drew.setRow N r2)) := Lib.hid fun ty dc sc => by
    rw [hr2]
    exact run_copy_row2 (W1.setRow N r1).drew _ _ ty 38 N ((p + 1) * 2) (l.length - p) dc ⟨g, p * 2, none⟩ (l.length - p) sc (l.length - p) r1 38 (tcells (l.drop p)) Try.underlying26 info2 hN2 (by simp only [Nat.min_def]; split <;> omega) hdl (fun j u hu => by
      rw [Addr.add_lit]
      exact hcell (p * 2 + j) u (by rw [esp, List.getElem?_append_right (by omega), hlp, show p * 2 + j - p * 2 = j from by omega]; exact hu) _ hg2) (by rw [hdl]; omega) (fun u hu => tcells_one _ u hu)
  have HE : Hid (OwnTc ((W1.setRow N r1).drew.setRow N r2) B (.slice (some ⟨N, 0, none⟩) (l.length + 1) G) (l.take p ++ (x, y) :: l.drop p)) := Lib.hid (by
    have hlen : (l.take p ++ (x, y) :: l.drop p).length = l.length + 1 := by simp; omega
    refine ⟨tcells_len _, .inr ⟨N, G, r2, by rw [hlen], by omega, setRow_heap _ N r1 r2 38 _ hN2, by rw [hlen]; exact hGn, hGm, hs2, by rw [hlen]; exact htake⟩⟩)
  have BE : Hid (w.grownBy ((W1.setRow N r1).drew.setRow N r2) (some g)) := Lib.hid (grownBy_setRow (grownBy_drewT (grownBy_setRow hB1 (.inr (by omega)) _)) (.inr (by omega)) _)
  have BN : Hid (w.heap.size ≤ N) := Lib.hid (by omega)
  have hG63 : G ≤ 9223372036854775807 := by unfold maxLen at hGm; omega
  have hw1 : IntKind.i64.wrap ((l.length : Int) + 1) = (l.length : Int) + 1 := IntWalk.i64_in _ (by omega)
  have hw2 : IntKind.i64.wrap ((p : Int) + 1) = (p : Int) + 1 := IntWalk.i64_in _ (by omega)
  have hw3 : IntKind.i64.wrap ((l.length : Int) + 1 - (p : Int)) = (l.length : Int) + 1 - (p : Int) := IntWalk.i64_in _ (by omega)
  have z1 : ¬ ((p : Int) = (l.length : Int)) := by omega
  have z1b : ((p : Int) == (l.length : Int)) = false := by rw [beq_eq_false_iff_ne]; exact z1
  have z2 : ((c : Int) < (l.length : Int) + 1) := by omega
  have z3 : (p : Int) ≤ (l.length : Int) := by omega
  have z5 : (p : Int) + 1 ≤ (l.length : Int) + 1 := by omega
  have z6 : ¬ (G = p + 1) := by omega
  have z7 : ¬ (G = p) := by omega
  have z7b : ¬ (c = p) := by omega
  have z8 : (p : Int) ≤ (l.length : Int) + 1 := by omega
  have z9 : (0 : Int) ≤ (p : Int) + 1 := by omega
  have z11 : (l.length : Int) ≤ (c : Int) := by omega
  have z12 : (p : Int) ≤ (c : Int) := by omega
  have z13 : (l.length : Int) + 1 ≤ (G : Int) := by omega
  have t2 : ((p : Int) + 1).toNat = p + 1 := by omega
  have ca := CA.out
  have cb := CB.out
  clear hb hv hsz ht hdl hr1 hr2 hA hl1 hs1 hl2 hs2 htake CA CB hc hcm hg hlp esp hcell hRs hRt hold1 hRl hA1 hvN hN hN2 hg2 hGm hGn hNe hB1 hi0 hz0 hzs hzb hgw hvw
  go_enter Try.func56, Try.ntmps56
  go_wp2_with (at_builtin; refine Lib.wpList_append_run _ rfl _ _ _ _ rfl _ _ rfl rfl _ _ (hrz _) ?_)
  refine wp_region_still_tail 8 (by kernel_rfl) (by kernel_rfl) ?_
  obtain ⟨W2, hW2⟩ : ∃ W2, ({ W1.setRow N r1 with drawn := (W1.setRow N r1).drawn + 1 } : World) = W2 := ⟨_, rfl⟩
  have hWd : (W1.setRow N r1).drew = W2 := hW2
  rw [hW2]
  rw [hWd] at cb HE BE
  clear hW2 hWd ca hrz
  simp only [List.take_succ_cons, List.take_zero, List.drop_succ_cons, List.drop_zero]
  iterate 8 still_step
  refine wpStill_nil ?_
  go_wp2_with fail
  go_ret
  exact ⟨_, rfl, HE.out, BE.out, .inr ⟨N, rfl, BN.out⟩⟩

/-- slices.Insert of one ticket into a row of the call's own, wherever. -/
theorem insert_any (v : Value) (l : List Tic) (p vb : Nat) (x y : Int) (B : Nat) (w : World) (h : OwnTc w B v l) (hl : l.length ≤ 8) (hp : p ≤ l.length) (hB : B ≤ w.heap.size) (hv : w.heap[vb]? = some (.cells #[.int .i64 x, .int .i64 y] 38 (0, 0))) (hvg : v.ownBlock ≠ some vb) :
    Calls Try.prog 56 #[v, .int .i64 (p : Int), .slice (some ⟨vb, 0, none⟩) 1 1] w (Inserted B w v l p x y) := by
  by_cases he : p = l.length
  · subst he
    exact insert_end v l vb x y B w h hl hB hv
  · have hp' : p < l.length := by omega
    obtain ⟨h0, ⟨h1, h2⟩ | ⟨g, c, cur, rfl, hr⟩⟩ := id h
    · omega
    · by_cases hroom : l.length + 1 ≤ c
      · exact insert_room g c p l vb x y B w h hl hp' hB hv (fun e => hvg (by rw [e]; rfl)) hroom
      · exact insert_grow g c p l vb x y B w h hl hp' hB hv (by omega)

end Go.Proofs.Ytlhjhdlpejpooab
