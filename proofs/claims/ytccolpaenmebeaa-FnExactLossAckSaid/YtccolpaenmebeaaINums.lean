/- The program's rangeNumbers: the contract of its iterator. -/
import Derived.Test.YtccolpaenmebeaaINum
namespace Go.Proofs.Ytccolpaenmebeaa
open Go.RowKit Go.Shelf
set_option linter.unusedVariables false
set_option linter.unusedSimpArgs false
attribute [local go_sem] Oper.semAt_some

set_option maxRecDepth 100000 in
set_option maxHeartbeats 2000000 in
theorem nums_in (F : Fence) (n : Nat) (hF : F.fn 64) (hro : F.round = none) (hn : 1 ≤ n) (l Bs : Nat) (X : Nat → Prop) (sv : Value) (rs : List (Int × Int)) (J Jx : List Int → World → Prop) (W : World)
    (hY : ∀ pre x W1, J pre W1 → pre.length < 1000 → YieldAt F (n - 1) Try.prog l #[.int .i64 x] W1 fun e W' =>
      (e = .returned (.bool true) ∧ J (pre ++ [x]) W' ∧ KB X W1 W') ∨ (e = .returned (.bool false) ∧ Jx (pre ++ [x]) W'))
    (hJ : AbidesFrom W.heap.size J) (hX : ∀ k, X k → k < W.heap.size) (hlen : rs.length ≤ 1048576)
    (hBs : W.cell? ⟨Bs, 0, none⟩ = some sv) (hR : RX X W sv rs) (hv : vfrom 0 rs = true) (h0 : J [] W) :
    CallsIn F n Try.prog 64 #[.func (.yield l) #[] #[], .pointer (some ⟨Bs, 0, none⟩)] W fun e W' => (∃ v, e = .returned v) ∧
      ((∃ ys, ys = renum rs ∧ J ys W') ∨ (∃ pre, pre <+: renum rs ∧ Jx pre W')) := by
  obtain ⟨a, c, rfl, hR⟩ := hR
  have HR := Lib.hid hR
  have HY := Lib.hid hY
  have HJ := Lib.hid hJ
  have HX := Lib.hid hX
  have HV := Lib.hid hv
  clear hR hY hJ hX hv
  refine callsIn_of_wp Try.func64 rfl hF ?_ hro
  simp only [Try.ntmps64, List.size_toArray, List.length_cons, List.length_nil, Nat.reduceAdd, Nat.reduceSub, Array.replicate_succ, Array.replicate_zero, List.push_toArray, List.append_toArray, List.nil_append, List.cons_append]
  gi_wp2
  gi_loopw [4, 5, 8] (fun _ _ i wr => ∃ k : Nat, k ≤ rs.length ∧ i = .int .i64 k ∧ Hid (J (renum (rs.take k)) wr) ∧ Hid (KB X W wr))
    (fun _ _ i _ => rs.length - (intOf i).toNat)
  case atStart => exact ⟨0, Nat.zero_le _, rfl, h0, kb_refl _ _⟩
  case round =>
    obtain ⟨k, hk, rfl, HJs, HK⟩ := hrel
    by_cases hlt : k < rs.length
    · obtain ⟨g, o, rfl, hxg, hc⟩ := HR.out (by rintro rfl; simp at hlt)
      have b1 : (k : Int) < (rs.length : Int) := by omega
      obtain ⟨e1, e2⟩ := hc k hlt
      have e1 := kb_cell HK.out (p := ⟨g, o + k * 2, none⟩) hxg e1
      have e2 := kb_cell HK.out (p := ⟨g, o + k * 2 + 1, none⟩) hxg e2
      have hst := next_step rs k hlt (by have := HV.out; rw [← List.take_append_drop k rs] at this; exact vfrom_part _ _ _ this)
      have hel := vfrom_els HV.out (rs.getD k (0, 0)) (by rw [List.getD_eq_getElem?_getD, List.getElem?_eq_getElem hlt]; exact List.getElem_mem hlt)
      have HP := Lib.hid (fun j (h : j ≤ ((rs.getD k (0, 0)).2 + 1 - (rs.getD k (0, 0)).1).toNat) => renum_pre (j := j) hlt rfl rfl h)
      have HT := Lib.hid (show renum (rs.take (k + 1)) = renum (rs.take k) ++ rseq (rs.getD k (0, 0)).1 ((rs.getD k (0, 0)).2 + 1 - (rs.getD k (0, 0)).1).toNat by rw [take_get rs k hlt, renum_app, show rs.getD k (0, 0) = ((rs.getD k (0, 0)).1, (rs.getD k (0, 0)).2) from rfl, renum_one])
      clear hst hc
      have HJ2 := Lib.hid (HJ.out _ wr (wr.alloc (.cells #[.int .i64 (rs.getD k (0, 0)).1, .int .i64 (rs.getD k (0, 0)).2] 69)) none HJs.out (World.grownBy_alloc wr _ none) (fun r e => by cases e))
      have HK2 := Lib.hid (kb_alloc HK.out (.cells #[.int .i64 (rs.getD k (0, 0)).1, .int .i64 (rs.getD k (0, 0)).2] 69))
      generalize (rs.getD k (0, 0)).1 = x at e1 HP HT HJ2 HK2 hel
      generalize (rs.getD k (0, 0)).2 = y at e2 HP HT HJ2 HK2 hel
      obtain ⟨h00, hxy, hy9⟩ := hel
      have hsz := HK.out.1
      have hxb : ¬ X wr.heap.size := fun h => by have := HX.out _ h; omega
      gi_wp2
      have hcy : ∀ W3, KB X (wr.alloc (.cells #[.int .i64 x, .int .i64 y] 69)) W3 → W3.cell? ⟨wr.heap.size, 1, none⟩ = some (.int .i64 y) := fun W3 h => kb_cell h (p := ⟨wr.heap.size, 1, none⟩) hxb (cell_two_new wr (.int .i64 x) (.int .i64 y) 69 1 _ rfl)
      have HCY := Lib.hid hcy
      clear hcy
      gi_loopw [5] (fun nv wq => ∃ j : Nat, j ≤ (y + 1 - x).toNat ∧ nv = .int .i64 (x + (j : Int)) ∧ Hid (J (renum (rs.take k) ++ rseq x j) wq) ∧ Hid (KB X (wr.alloc (.cells #[.int .i64 x, .int .i64 y] 69)) wq))
        (fun nv _ => (y + 1 - intOf nv).toNat)
      case atStart => exact ⟨0, Nat.zero_le _, by simp, by show J _ _; simpa [rseq] using HJ2.out, kb_refl _ _⟩
      case round =>
        obtain ⟨j, hj, rfl, HJq, HKq⟩ := hrel
        have hyc := HCY.out _ HKq.out
        by_cases hjy : x + (j : Int) ≤ y
        · have hjl : j + 1 ≤ (y + 1 - x).toNat := by omega
          have hlen1 : (renum (rs.take k) ++ rseq x j).length < 1000 := by
            have h1 := (HP.out (j + 1) hjl).length_le
            have h2 := renum_len (Int.le_refl 0) HV.out
            have h3 := rcnt_le HV.out (by omega)
            rw [List.length_append, rseq_len] at h1 ⊢
            omega
          obtain ⟨fn, tmps, assign, body, hy, hR⟩ := HY.out _ (x + (j : Int)) wr HJq.out hlen1
          have hd : decide (x + (j : Int) ≤ y) = true := decide_eq_true hjy
          clear hlen1
          gi_wp2
          refine hR.mono ?_
          rintro e W3 (⟨rfl, hJ3, hk3⟩ | ⟨rfl, hJx3⟩)
          · have HJ3 := Lib.hid hJ3
            have HK3 := Lib.hid hk3
            clear hJ3 hk3 hR hy
            gi_wp2
            go_roundw
            case rel => exact ⟨j + 1, hjl, (by first | go_num | (congr 1; omega)), by show J _ _; rw [rseq_succ, ← List.append_assoc]; exact HJ3.out, kb_t HKq.out HK3.out⟩
            case measure => simp [intOf]; omega
          · have HJ3 := Lib.hid hJx3
            clear hJx3 hR hy
            gi_wp2
            refine bodyPost_ret (results_none rfl _ _ _) rfl ?_
            refine ⟨⟨_, rfl⟩, .inr ⟨_, HP.out (j + 1) hjl, ?_⟩⟩
            rw [rseq_succ, ← List.append_assoc]; exact HJ3.out
        · have hd : decide (x + (j : Int) ≤ y) = false := decide_eq_false hjy
          have hje : (y + 1 - x).toNat = j := by omega
          have HE := Lib.hid hje
          clear hje
          gi_wp2
          go_roundw
          case rel => exact ⟨k + 1, by omega, by go_num, by show J _ _; rw [HT.out, HE.out]; exact HJq.out, kb_t HK2.out HKq.out⟩
          case measure => simp [intOf]; omega
    · have he : renum (rs.take k) = renum rs := by rw [List.take_of_length_le (by omega)]
      have HE := Lib.hid he
      clear he
      gi_wp2
      go_end0
      exact ⟨⟨_, rfl⟩, .inl ⟨_, HE.out, HJs.out⟩⟩

/-- The iterator's contract, as a loop over it asks. -/
theorem nums_stops (F : Fence) (n : Nat) (hF : F.fn 64) (hro : F.round = none) (hn : 1 ≤ n) (Bs : Nat) (X : Nat → Prop) (sv : Value) (rs : List (Int × Int)) (w : World)
    (hX : ∀ k, X k → k < w.heap.size) (hlen : rs.length ≤ 1048576) (hBs : w.cell? ⟨Bs, 0, none⟩ = some sv) (hR : RX X w sv rs) (hv : vfrom 0 rs = true) :
    SeqStopsK F n Try.prog 64 #[.pointer (some ⟨Bs, 0, none⟩)] (fun x : Int => #[Value.int .i64 x]) (KB X) (fun ys => ys = renum rs) (fun pre => pre <+: renum rs) 1000 w := fun l J Jx W hW hJ hJx hY h0 => by
  refine nums_in F n hF hro hn l Bs X sv rs J Jx W hY hJ (fun k hk => Nat.lt_of_lt_of_le (hX k hk) hW.size) hlen ((hW.cell (World.block_lt_of_cell? w _ hBs)).trans hBs) ?_ hv h0
  obtain ⟨a, c, rfl, hR⟩ := hR
  refine ⟨a, c, rfl, fun hne => ?_⟩
  obtain ⟨g, o, rfl, hxg, hc⟩ := hR hne
  exact ⟨g, o, rfl, hxg, fun i hi => ⟨(hW.cell (World.block_lt_of_cell? w _ (hc i hi).1)).trans (hc i hi).1, (hW.cell (World.block_lt_of_cell? w _ (hc i hi).2)).trans (hc i hi).2⟩⟩

end Go.Proofs.Ytccolpaenmebeaa
