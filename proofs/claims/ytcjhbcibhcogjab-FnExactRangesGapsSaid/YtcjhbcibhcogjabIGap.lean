/- The program's rangeGaps: the iterator over the gaps, and its contract. -/
import Derived.Test.YtcjhbcibhcogjabINum
import Derived.Test.YtcjhbcibhcogjabStillIn
namespace Go.Proofs.Ytcjhbcibhcogjab
open Go.RowKit Go.Shelf
set_option linter.unusedVariables false
set_option linter.unusedSimpArgs false
attribute [local go_sem] Oper.semAt_some

theorem gap_make (n : Nat) (a : Option Addr) (len cap : Nat) (w : World) :
    CallsIn Fence.wide n Try.prog 49 #[.slice a len cap] w fun e w' => e = .returned (.func (.func 58) #[] #[.pointer (some ⟨w.heap.size, 0, none⟩)]) ∧ w' = w.alloc (.cells #[.slice a len cap] 23) := by
  refine callsIn_of_wp Try.func49 rfl trivial ?_ rfl
  simp only [Try.ntmps49, List.size_toArray, List.length_cons, List.length_nil, Nat.reduceAdd, Nat.reduceSub, Array.replicate_succ, Array.replicate_zero, List.push_toArray, List.append_toArray, List.nil_append, List.cons_append]
  gi_wp2
  go_ret
  exact ⟨rfl, rfl⟩
theorem gap_pre (l : List (Int × Int)) (k : Nat) : lgaps (l.take k) <+: lgaps l := by
  induction l generalizing k with
  | nil => rw [List.take_nil]; exact List.prefix_refl _
  | cons r t ih =>
    cases k with
    | zero => exact List.nil_prefix
    | succ k =>
      cases t with
      | nil => rw [List.take_of_length_le (by simp)]; exact List.prefix_refl _
      | cons s u =>
        cases k with
        | zero => exact List.nil_prefix
        | succ k =>
          have := ih (k + 1)
          simp only [List.take_succ_cons, lgaps] at this ⊢
          exact List.cons_prefix_cons.2 ⟨rfl, this⟩

set_option maxRecDepth 100000 in
set_option maxHeartbeats 2000000 in
theorem gaps_in (n : Nat) (l Bs : Nat) (X : Nat → Prop) (sv : Value) (rs : List (Int × Int)) (J Jx : List (Int × Int) → World → Prop) (W : World)
    (hY : ∀ pre x W1, J pre W1 → pre.length < rs.length → YieldAt Fence.wide (n - 1) Try.prog l #[.agg #[.int .i64 x.1, .int .i64 x.2]] W1 fun e W' =>
      (e = .returned (.bool true) ∧ J (pre ++ [x]) W' ∧ KB X W1 W') ∨ (e = .returned (.bool false) ∧ Jx (pre ++ [x]) W'))
    (hJ : AbidesFrom W.heap.size J) (hXs : ¬ X Bs) (hlen : rs.length ≤ 1048576) (hn : 1 ≤ n)
    (hBs : W.cell? ⟨Bs, 0, none⟩ = some sv) (hR : RX X W sv rs) (hv : vfrom 0 rs = true) (h0 : J [] W) :
    CallsIn Fence.wide n Try.prog 58 #[.func (.yield l) #[] #[], .pointer (some ⟨Bs, 0, none⟩)] W fun e W' => (∃ v, e = .returned v) ∧
      ((∃ ys, ys = lgaps rs ∧ J ys W') ∨ (∃ pre, pre <+: lgaps rs ∧ Jx pre W')) := by
  obtain ⟨a, c, rfl, hR⟩ := hR
  have HR := Lib.hid hR
  have HY := Lib.hid hY
  have HJ := Lib.hid hJ
  have HV := Lib.hid hv
  have HBs := Lib.hid hBs
  clear hR hY hJ hv hBs
  refine callsIn_of_wp Try.func58 rfl trivial ?_ rfl
  simp only [Try.ntmps58, List.size_toArray, List.length_cons, List.length_nil, Nat.reduceAdd, Nat.reduceSub, Array.replicate_succ, Array.replicate_zero, List.push_toArray, List.append_toArray, List.nil_append, List.cons_append]
  gi_wp2
  gi_loopw [3] (fun i wr => ∃ k : Nat, 1 ≤ k ∧ (k ≤ rs.length ∨ k = 1) ∧ i = .int .i64 k ∧ Hid (J (lgaps (rs.take k)) wr) ∧ Hid (KB X W wr))
    (fun i _ => rs.length - (intOf i).toNat)
  case atStart => exact ⟨1, Nat.le_refl _, .inr rfl, rfl, (by show J _ _; cases rs with | nil => exact h0 | cons r t => exact h0), kb_refl _ _⟩
  case round =>
    obtain ⟨k, hk1, hk, rfl, HJs, HK⟩ := hrel
    have hbs := kb_cell HK.out (p := ⟨Bs, 0, none⟩) hXs HBs.out
    by_cases hlt : k < rs.length
    · obtain ⟨g, o, rfl, hxg, hc⟩ := HR.out (by rintro rfl; simp at hlt)
      have b1 : (k : Int) < (rs.length : Int) := by omega
      obtain ⟨e1, _⟩ := hc k hlt
      obtain ⟨_, e2⟩ := hc (k - 1) (by omega)
      have e1 := kb_cell HK.out (p := ⟨g, o + k * 2, none⟩) hxg e1
      have e2 := kb_cell HK.out (p := ⟨g, o + (k - 1) * 2 + 1, none⟩) hxg e2
      have HST := Lib.hid (lgaps_take rs k (by omega) hlt)
      have HP := Lib.hid (gap_pre rs (k + 1))
      have hel := vfrom_els HV.out (rs.getD k (0, 0)) (by rw [List.getD_eq_getElem?_getD, List.getElem?_eq_getElem hlt]; exact List.getElem_mem hlt)
      have hel2 := vfrom_els HV.out (rs.getD (k - 1) (0, 0)) (by rw [List.getD_eq_getElem?_getD, List.getElem?_eq_getElem (show k - 1 < rs.length by omega)]; exact List.getElem_mem _)
      clear hc
      have hx1 : 0 ≤ (rs.getD k (0, 0)).1 ∧ (rs.getD k (0, 0)).1 ≤ 999 := by omega
      have hy1 : 0 ≤ (rs.getD (k - 1) (0, 0)).2 ∧ (rs.getD (k - 1) (0, 0)).2 ≤ 999 := by omega
      clear hel hel2
      generalize (rs.getD k (0, 0)).1 = x at e1 HST hx1
      generalize (rs.getD (k - 1) (0, 0)).2 = y at e2 HST hy1
      obtain ⟨x0, x9⟩ := hx1
      obtain ⟨y0, y9⟩ := hy1
      have hpl : (lgaps (rs.take k)).length < rs.length := by rw [lgaps_len]; simp; omega
      have t1 : ((k : Int) - 1).toNat = k - 1 := by omega
      have t2 : (k : Int) - 1 < (rs.length : Int) := by omega
      have t3 : (0 : Int) ≤ (k : Int) - 1 := by omega
      have t4 : (1 : Int) ≤ (k : Int) := by omega
      gi_wp2
      refine wpIn_region_still_tail 15 (by kernel_rfl) (by kernel_rfl) ?_
      obtain ⟨W9, hW⟩ : ∃ W9, ({ wr with drawn := wr.drawn + 1 } : World) = W9 := ⟨_, rfl⟩
      have f1 : W9.cell? ⟨g, o + k * 2, none⟩ = some (.int .i64 x) := by rw [← hW]; exact e1
      have f2 : W9.cell? ⟨g, o + (k - 1) * 2 + 1, none⟩ = some (.int .i64 y) := by rw [← hW]; exact e2
      have f3 : W9.cell? ⟨Bs, 0, none⟩ = some (.slice (some ⟨g, o, none⟩) rs.length c) := by rw [← hW]; exact hbs
      have HJ9 := Lib.hid (show J (lgaps (rs.take k)) W9 by rw [← hW]; exact HJ.out _ wr _ none HJs.out ⟨rfl, rfl, rfl, Nat.le_refl _, fun _ _ _ => rfl⟩ (fun r e => by cases e))
      have HK9 := Lib.hid (show KB X W W9 by rw [← hW]; exact HK.out)
      rw [hW]
      clear hW e1 e2 hbs
      simp only [List.take_succ_cons, List.take_zero, List.drop_succ_cons, List.drop_zero]
      obtain ⟨fn, tmps, assign, body, hy, hR⟩ := HY.out _ (y + 1, x - 1) W9 HJ9.out hpl
      dsimp only at hy
      have v1 : IntKind.i64.wrap ((k : Int) - 1) = (k : Int) - 1 := IntWalk.i64_in _ (by omega)
      have v2 : IntKind.i64.wrap (y + 1) = y + 1 := IntWalk.i64_in _ (by omega)
      have v3 : IntKind.i64.wrap (x - 1) = x - 1 := IntWalk.i64_in _ (by omega)
      iterate 15 still_step
      refine wpStill_nil ?_
      gi_wp2
      refine hR.mono ?_
      rintro e W3 (⟨rfl, hJ3, hk3⟩ | ⟨rfl, hJx3⟩)
      · have HJ3 := Lib.hid hJ3
        have HK3 := Lib.hid hk3
        clear hJ3 hk3 hR hy
        gi_wp2
        go_roundw
        case rel => exact ⟨k + 1, by omega, .inl (by omega), by go_num, by show J _ _; rw [HST.out]; exact HJ3.out, kb_t HK9.out HK3.out⟩
        case measure => simp [intOf]; omega
      · have HJ3 := Lib.hid hJx3
        clear hJx3 hR hy
        gi_wp2
        refine bodyPost_ret (results_none rfl _ _ _) rfl ?_
        exact ⟨⟨_, rfl⟩, .inr ⟨_, HP.out, by rw [HST.out]; exact HJ3.out⟩⟩
    · have he : lgaps (rs.take k) = lgaps rs := by rw [List.take_of_length_le (by omega)]
      have HE := Lib.hid he
      have b1 : ¬ (k : Int) < (rs.length : Int) := by omega
      clear he
      gi_wp2
      go_end0
      exact ⟨⟨_, rfl⟩, .inl (by first | exact ⟨_, HE.out, HJs.out⟩ | (rw [← HE.out]; exact HJs.out))⟩

theorem gaps_stops (n : Nat) (hn : 1 ≤ n) (Bs : Nat) (X : Nat → Prop) (sv : Value) (rs : List (Int × Int)) (w : World) (hXs : ¬ X Bs) (hlen : rs.length ≤ 1048576) (hBs : w.cell? ⟨Bs, 0, none⟩ = some sv) (hR : RX X w sv rs) (hv : vfrom 0 rs = true) :
    SeqStopsK Fence.wide n Try.prog 58 #[.pointer (some ⟨Bs, 0, none⟩)] (fun x : Int × Int => #[Value.agg #[.int .i64 x.1, .int .i64 x.2]]) (KB X) (fun ys => ys = lgaps rs) (fun pre => pre <+: lgaps rs) rs.length w := fun l J Jx W hW hJ hJx hY h0 => by
  refine gaps_in n l Bs X sv rs J Jx W hY hJ hXs hlen hn ((hW.cell (World.block_lt_of_cell? w _ hBs)).trans hBs) ?_ hv h0
  obtain ⟨a, c, rfl, hR⟩ := hR
  refine ⟨a, c, rfl, fun hne => ?_⟩
  obtain ⟨g, o, rfl, hxg, hc⟩ := hR hne
  exact ⟨g, o, rfl, hxg, fun i hi => ⟨(hW.cell (World.block_lt_of_cell? w _ (hc i hi).1)).trans (hc i hi).1, (hW.cell (World.block_lt_of_cell? w _ (hc i hi).2)).trans (hc i hi).2⟩⟩

end Go.Proofs.Ytcjhbcibhcogjab
