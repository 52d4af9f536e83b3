/- Chapter 31, the program: waitingOf, withWaiting. -/
import Derived.Test.YthdhjjbgegcncaaIvF
import Derived.Test.YthdhjjbgegcncaaPcn
import Derived.Test.YthdhjjbgegcncaaRcH
import Derived.Deep.CutBlock
namespace Go.Proofs.Ythdhjjbgegcncaa
open Go.RowKit
set_option linter.unusedVariables false
set_option linter.unusedSimpArgs false

theorem wpList_app_pc {w : World} {ops : Array Oper} {rest : List Oper} {o : Oper} {a : Act} {Q : Exit → Act → World → Prop} (hgd : o.guard = none) (s x : Operand)
    (ho : o.op = .call { callee := .builtin .append, args := #[s, x], argTypes := #[22, 22] })
    (B : Nat) (v : Value) (l : List Pc) (hs : a.eval s = v) (hown : OwnPc w B v l) (hv : v ≠ .slice none 0 0) (p : Int) (d : ByteArray) (q cc : Nat) (hx : a.eval x = .slice (some ⟨q, 0, none⟩) 1 cc)
    (hm : w.cell? ⟨q, 0, none⟩ = some (.int .i64 p) ∧ w.cell? ⟨q, 1, none⟩ = some (.string d)) (hlen : l.length ≤ 1000) (hB : B ≤ w.heap.size)
    (h : ∀ g' nn c' w', OwnPc w' B (.slice (some ⟨g', 0, none⟩) nn c') (l ++ [(p, d)]) → w.grownBy w' v.ownBlock → wpList Try.prog ops Q rest (a.put o.dst (.slice (some ⟨g', 0, none⟩) nn c')) w') :
    wpList Try.prog ops Q (o :: rest) a w := by
  obtain ⟨i0, hi, hz0, hz1, hz2⟩ := info_parts try_infoPiece
  have key : ∀ j u, [Value.int .i64 p, .string d][j]? = some u → w.cell? ((⟨q, 0, none⟩ : Addr).add j) = some u := by
    intro j u hu
    rw [Addr.add_lit, Nat.zero_add]
    rcases j with _ | _ | j
    · have : u = .int .i64 p := by simpa using hu.symm
      rw [this]; exact hm.1
    · have : u = .string d := by simpa using hu.symm
      rw [this]; exact hm.2
    · simp at hu
  obtain ⟨v', w', hr, h2, h3, h4, h5⟩ := run_append_own_at (P := Try.prog) w B 22 o.type 51 i0 (.agg #[.int .i64 0, .string ⟨#[]⟩]) 2 24 Try.underlying22 hi hz0 hz1 hz2 rfl (by decide) v l.length (pcells l) hown ⟨q, 0, none⟩ 1 cc [.int .i64 p, .string d] (by simp) key (onep p d) (by unfold maxLen; omega) (by omega) hB
  refine wpList_plain hgd fun K hK => ?_
  unfold Oper.wp execOp
  simp only [ho, resolve, invoke, builtin, Sem.run_bind, Sem.run_pure, Result.andThen_ok, List.map_toArray, List.map_cons, List.map_nil, hs, hx, hr]
  have hO := ownpc_snoc h2
  obtain ⟨g', c', rfl, _⟩ := hO.sl (fun e => hv (h4.1 e).1)
  exact hK _ _ (h g' _ c' w' hO h3)

set_option maxRecDepth 100000 in
set_option maxHeartbeats 4000000 in
theorem waiting_any (v : Value) (l : List Qc) (rd fi li : Int) (w : World) (h : Pcn w v l) (hl : l.length ≤ 1000) (hz : ISz l) :
    Calls Try.prog 39 #[.agg #[.int .i64 rd, v, .int .i64 fi, .int .i64 li]] w fun e w' => ∃ u, e = .returned u ∧ Below w.heap.size w w' ∧ Ivl w' w.heap.size u l := by
  have H := Lib.hid h
  have HZ := Lib.hid hz
  obtain ⟨a, c, rfl, _⟩ := h
  have I0 := Lib.hid (Ivl.new (w := w.alloc (.cells #[.int .i64 rd, .slice a l.length c, .int .i64 fi, .int .i64 li] 24)) (B := w.heap.size) (by simp))
  have B0 := Lib.hid (((Below.refl w.heap.size w).alloc (Nat.le_refl _) (.cells #[.int .i64 rd, .slice a l.length c, .int .i64 fi, .int .i64 li] 24)).alloc (by simp) (.cells #[] 55))
  clear hz
  go_enter Try.func39, Try.ntmps39
  go_wp2_with fail
  simp only [World.size_alloc] at I0
  generalize (w.alloc (.cells #[.int .i64 rd, .slice a l.length c, .int .i64 fi, .int .i64 li] 24)).alloc (.cells #[] 55) = W0 at *
  go_loopw [3, 10] (fun rv iv wr => ∃ j : Nat, j ≤ l.length ∧ iv = .int .i64 (j : Int) ∧ Hid (Below w.heap.size w wr) ∧ Hid (Ivl wr w.heap.size rv (l.take j))) (fun _ iv _ => l.length - (intOf iv).toNat)
  case atStart => exact ⟨0, Nat.zero_le _, rfl, B0, I0⟩
  case round =>
    obtain ⟨j, hj, rfl, HB, HI⟩ := hrel
    by_cases hlt : j < l.length
    · have hlt' : (j : Int) < (l.length : Int) := by omega
      obtain ⟨_, _, e0, hc0⟩ := H.out
      injection e0 with e1 e2 e3
      obtain ⟨g, o, e4, hc⟩ := hc0 (by rintro rfl; simp at hlt)
      clear hc0
      subst e1 e3 e4
      have c0 := (HB.out.cell (World.block_lt_of_cell? w _ (hc j hlt).1)).trans (hc j hlt).1
      have c1 := (HB.out.cell (World.block_lt_of_cell? w _ (hc j hlt).2)).trans (hc j hlt).2
      have hsz := HZ.out.at j hlt
      have HT := Lib.hid (take_snoc' l j hlt)
      have hlen : (l.take j).length ≤ 1000 := by rw [List.length_take]; omega
      rw [show l.getD j pc0 = l[j] by rw [List.getD_eq_getElem?_getD, List.getElem?_eq_getElem hlt]; rfl] at c0 c1
      generalize l[j] = p at *
      obtain ⟨x, d⟩ := p
      simp only at c0 c1 hsz
      have B1 := Lib.hid (HB.out.alloc HB.out.size (.cells #[.int .i64 x, .string d] 51))
      have I1 := Lib.hid (HI.out.below ((Below.refl wr.heap.size wr).alloc (Nat.le_refl _) (.cells #[.int .i64 x, .string d] 51)))
      have KB := Lib.hid (fun W => bytesat_any x d W (by omega))
      clear hc e2
      go_wp2_with fail
      generalize wr.alloc (.cells #[.int .i64 x, .string d] 51) = W1 at *
      refine (KB.out _).mono ?_
      rintro e w3 ⟨v3, rfl, hb3, hy3⟩
      have B3 := Lib.hid (B1.out.trans (hb3.mono B1.out.size))
      have S3 := Lib.hid (SrcIv.new hy3 (x := x) 55)
      have I3 := Lib.hid ((I1.out.below hb3).below ((Below.refl w3.heap.size w3).alloc (Nat.le_refl _) (.cells #[.int .i64 x, v3] 55)))
      have B4 := Lib.hid (B3.out.alloc B3.out.size (.cells #[.int .i64 x, v3] 55))
      clear hb3 hy3
      go_wp2_with (at_builtin; refine hold ?_)
      refine unhold ?_
      refine wpList_app_iv _ rfl (.tmp 14) (.tmp 20) rfl w.heap.size _ _ [(x, d)] rfl I3.out _ rfl S3.out ?Aa ?Ab ?_
      case Aa => simp; omega
      case Ab => exact B4.out.size
      intro v5 w5 ho5 hg5 hn5
      have B5 : Hid (Below w.heap.size w w5) := Lib.hid (B4.out.grown hg5 B4.out.size (fun k hk => HI.out.lo k hk))
      have O5 := Lib.hid ho5
      rw [← HT.out] at O5
      clear ho5 hg5 hn5
      go_wp2_with fail
      go_roundw
      case rel => exact ⟨j + 1, by omega, by go_num, B5, O5⟩
      case measure => simp [intOf]; omega
    · have hlt' : ¬ (j : Int) < (l.length : Int) := by omega
      rw [List.take_of_length_le (by omega)] at HI
      go_wp2_with fail
      go_ret
      exact ⟨_, rfl, HB.out, HI.out⟩

/-- Where withWaiting stands: the stream in its box, the result's block, the pieces' row. -/
structure Ww (w W : World) (rd fi li : Int) (v : Value) (l : List Qc) : Prop where
  bel : Below w.heap.size w W
  f : Frm W w.heap.size [.int .i64 rd, v, .int .i64 fi, .int .i64 li]
  t : Thaw W w.heap.size
  r : Frm W (w.heap.size + 1) [.int .i64 0, .slice none 0 0, .int .i64 0, .int .i64 0]
  rt : Thaw W (w.heap.size + 1)
  own : OwnPc W (w.heap.size + 2) v l
  ne : v ≠ .slice none 0 0
  hi : w.heap.size + 1 < W.heap.size
theorem Ww.below {w W W' : World} {rd fi li : Int} {v : Value} {l : List Qc} (h : Ww w W rd fi li v l) (hb : Below W.heap.size W W') : Ww w W' rd fi li v l where
  bel := h.bel.trans (hb.mono h.bel.size)
  f := h.f.below hb (by have := h.hi; omega)
  t := h.t.below hb (by have := h.hi; omega)
  r := h.r.below hb h.hi
  rt := h.rt.below hb h.hi
  own := h.own.below hb
  ne := h.ne
  hi := Nat.lt_of_lt_of_le h.hi hb.size
theorem Ww.put {w W W' : World} {rd fi li : Int} {v v' : Value} {l l' : List Qc} (h : Ww w W rd fi li v l) (hg : W.grownBy W' v.ownBlock) (ho : OwnPc W' (w.heap.size + 2) v' l') (hn : v' ≠ .slice none 0 0) : Ww w (W'.setCell ⟨w.heap.size, 1, none⟩ v') rd fi li v' l' := by
  have hlt : ∀ k, v.ownBlock = some k → w.heap.size + 2 ≤ k := fun k hk => (World.ownsRow.lt h.own k hk).1
  obtain ⟨g, hgv⟩ : ∃ g, v.ownBlock = some g := by
    obtain ⟨g, c, e, _⟩ := h.own.sl h.ne
    exact ⟨g, by rw [e]; rfl⟩
  have hgg := hlt g hgv
  rw [hgv] at hg
  have hh := h.hi
  have hsz : (W'.setCell ⟨w.heap.size, 1, none⟩ v').heap.size = W'.heap.size := by simp
  refine ⟨?_, ?_, ?_, ?_, ?_, ?_, hn, by rw [hsz]; exact Nat.lt_of_lt_of_le hh hg.size⟩
  · exact (h.bel.grown hg h.bel.size (fun k hk => by injection hk with hk; omega)).setCell (p := ⟨w.heap.size, 1, none⟩) (Nat.le_refl _) v'
  · exact (h.f.grown (by simp) hg (by omega)).set (i := 1) (by simp) v'
  · exact (h.t.grown (by omega) hg (by omega)).set _ v'
  · exact (h.r.grown (by simp) hg (by omega)).far (by omega) v'
  · exact (h.rt.grown hh hg (by omega)).set _ v'
  · exact own_far ho fun k hk => by have := (World.ownsRow.lt ho k hk).1; omega

theorem Ww.old {w W W' : World} {rd fi li : Int} {v : Value} {l : List Qc} (h : Ww w W rd fi li v l) (hg : W.grownBy W' v.ownBlock) : W'.cell? ⟨w.heap.size, 1, none⟩ = some v ∧ W'.frozen? ⟨w.heap.size, 1, none⟩ = false := by
  obtain ⟨g, c, e, _, hgl, _⟩ := h.own.sl h.ne
  have hgv : v.ownBlock = some g := by rw [e]; rfl
  rw [hgv] at hg
  have := h.hi
  exact ⟨(h.f.grown (by simp) hg (by omega)) 1, (h.t.grown (by omega) hg (by omega)) 1⟩
theorem Ww.start (w : World) (rd fi li : Int) : Ww w (((w.alloc (.cells #[.int .i64 rd, .slice (some ⟨w.heap.size + 1 + 1, 0, none⟩) 0 0, .int .i64 fi, .int .i64 li] 24)).alloc (.cells #[.int .i64 0, .slice none 0 0, .int .i64 0, .int .i64 0] 24)).alloc (.cells #[] 51)) rd fi li (.slice (some ⟨w.heap.size + 1 + 1, 0, none⟩) 0 0) [] where
  bel := (((Below.refl _ _).alloc (Nat.le_refl _) _).alloc (by simp) _).alloc (by simp; omega) _
  f := ((Frm.new w 24 [.int .i64 rd, .slice (some ⟨w.heap.size + 1 + 1, 0, none⟩) 0 0, .int .i64 fi, .int .i64 li]).below ((Below.refl (w.heap.size + 1) _).alloc (by simp) _) (by omega)).below ((Below.refl (w.heap.size + 1) _).alloc (by simp) _) (by omega)
  t := ((Thaw.new w 24 [.int .i64 rd, .slice (some ⟨w.heap.size + 1 + 1, 0, none⟩) 0 0, .int .i64 fi, .int .i64 li]).below ((Below.refl (w.heap.size + 1) _).alloc (by simp) _) (by omega)).below ((Below.refl (w.heap.size + 1) _).alloc (by simp) _) (by omega)
  r := by
    have := (Frm.new (w.alloc (.cells #[.int .i64 rd, .slice (some ⟨w.heap.size + 1 + 1, 0, none⟩) 0 0, .int .i64 fi, .int .i64 li] 24)) 24 [.int .i64 0, .slice none 0 0, .int .i64 0, .int .i64 0]).below ((Below.refl (w.heap.size + 2) _).alloc (by simp) (.cells #[] 51)) (by simp)
    intro i
    simpa using this i
  rt := by
    have := (Thaw.new (w.alloc (.cells #[.int .i64 rd, .slice (some ⟨w.heap.size + 1 + 1, 0, none⟩) 0 0, .int .i64 fi, .int .i64 li] 24)) 24 [.int .i64 0, .slice none 0 0, .int .i64 0, .int .i64 0]).below ((Below.refl (w.heap.size + 2) _).alloc (by simp) (.cells #[] 51)) (by simp)
    intro i
    simpa using this i
  own := by
    have := own_new 51 2 (w.heap.size + 2) ((w.alloc (.cells #[.int .i64 rd, .slice (some ⟨w.heap.size + 1 + 1, 0, none⟩) 0 0, .int .i64 fi, .int .i64 li] 24)).alloc (.cells #[.int .i64 0, .slice none 0 0, .int .i64 0, .int .i64 0] 24)) (by simp)
    unfold OwnPc
    simpa [pcells] using this
  ne := by simp
  hi := by simp
/-- The stream is stored as the result. -/
theorem Ww.fin {w W : World} {rd fi li : Int} {v : Value} {l : List Qc} (h : Ww w W rd fi li v l) :
    Below w.heap.size w ((((W.setCell ⟨w.heap.size + 1, 0, none⟩ (.int .i64 rd)).setCell ⟨w.heap.size + 1, 1, none⟩ v).setCell ⟨w.heap.size + 1, 2, none⟩ (.int .i64 fi)).setCell ⟨w.heap.size + 1, 3, none⟩ (.int .i64 li)) ∧
    Frm ((((W.setCell ⟨w.heap.size + 1, 0, none⟩ (.int .i64 rd)).setCell ⟨w.heap.size + 1, 1, none⟩ v).setCell ⟨w.heap.size + 1, 2, none⟩ (.int .i64 fi)).setCell ⟨w.heap.size + 1, 3, none⟩ (.int .i64 li)) (w.heap.size + 1) [.int .i64 rd, v, .int .i64 fi, .int .i64 li] ∧
    OwnPc ((((W.setCell ⟨w.heap.size + 1, 0, none⟩ (.int .i64 rd)).setCell ⟨w.heap.size + 1, 1, none⟩ v).setCell ⟨w.heap.size + 1, 2, none⟩ (.int .i64 fi)).setCell ⟨w.heap.size + 1, 3, none⟩ (.int .i64 li)) w.heap.size v l := by
  have hne : ∀ k, v.ownBlock = some k → w.heap.size + 1 ≠ k := fun k hk => by have := (World.ownsRow.lt h.own k hk).1; omega
  refine ⟨Below.setCell (Below.setCell (Below.setCell (Below.setCell h.bel (p := ⟨w.heap.size + 1, 0, none⟩) (Nat.le_succ _) _) (p := ⟨w.heap.size + 1, 1, none⟩) (Nat.le_succ _) _) (p := ⟨w.heap.size + 1, 2, none⟩) (Nat.le_succ _) _) (p := ⟨w.heap.size + 1, 3, none⟩) (Nat.le_succ _) _, (((h.r.set (i := 0) (by simp) _).set (i := 1) (by simp) _).set (i := 2) (by simp) _).set (i := 3) (by simp) _, ?_⟩
  exact OwnPc.lower (own_far (own_far (own_far (own_far h.own hne) hne) hne) hne) (by omega)
theorem conv_byt {W : World} {g o c : Nat} {d : ByteArray} (h : Byt W (.slice (some ⟨g, o, none⟩) d.size c) d) : (convert 53 9 (.slice (some ⟨g, o, none⟩) d.size c)).run Try.prog W = .ok (.string d) W := by
  refine Lib.run_convert_whole (P := Try.prog) W 53 5 9 Try.underlying53 Try.underlying5 Try.underlying9 g o d ?_ c
  obtain ⟨g1, o1, c1, C, m, e, hc1, hh, hd⟩ := h
  injection e with e1 e2 e3
  injection e1 with e1
  injection e1 with e1 e4
  subst e1 e4
  intro i hi
  rw [hd i hi, dat_get d hi]

set_option maxRecDepth 100000 in
set_option maxHeartbeats 4000000 in
theorem withw_any (B : Nat) (v s : Value) (l : List Qc) (rd fi li : Int) (w : World) (h : Ivl w B s l) (hl : l.length ≤ 1000) (hv : ∃ a n k, v = .slice a n k) :
    Calls Try.prog 41 #[.agg #[.int .i64 rd, v, .int .i64 fi, .int .i64 li], s] w fun e w' => ∃ u, e = .returned (.agg #[.int .i64 rd, u, .int .i64 fi, .int .i64 li]) ∧ Below w.heap.size w w' ∧ OwnPc w' w.heap.size u l ∧ u ≠ .slice none 0 0 := by
  have H := Lib.hid h
  obtain ⟨g, c, rfl, hc, hgB, hgw⟩ := h.sl
  clear h
  obtain ⟨a0, n0, c0, rfl⟩ : ∃ a n k, v = .slice a n k := hv
  go_enter Try.func41, Try.ntmps41
  go_wp2_with fail
  have W0 := Lib.hid (Ww.start w rd fi li)
  generalize (((w.alloc (.cells #[.int .i64 rd, .slice (some ⟨w.heap.size + 1 + 1, 0, none⟩) 0 0, .int .i64 fi, .int .i64 li] 24)).alloc (.cells #[.int .i64 0, .slice none 0 0, .int .i64 0, .int .i64 0] 24)).alloc (.cells #[] 51)) = X0 at *
  go_loopw [11] (fun iv wr => ∃ (j : Nat) (v : Value), j ≤ l.length ∧ iv = .int .i64 (j : Int) ∧ Hid (Ww w wr rd fi li v (l.take j))) (fun iv _ => l.length - (intOf iv).toNat)
  case atStart => exact ⟨0, _, Nat.zero_le _, rfl, W0⟩
  case round =>
    obtain ⟨j, v, hj, rfl, HW⟩ := hrel
    by_cases hlt : j < l.length
    · have hlt' : (j : Int) < (l.length : Int) := by omega
      obtain ⟨u, c0, c1, hy⟩ := (H.out.below HW.out.bel).at j hlt
      have HT := Lib.hid (take_snoc' l j hlt)
      have hlen : (l.take j).length ≤ 1000 := by rw [List.length_take]; omega
      generalize l[j] = p at *
      obtain ⟨x, d⟩ := p
      simp only at c0 c1 hy
      obtain ⟨g1, o1, k1, rfl, hk1⟩ := hy.shape
      have HY := Lib.hid (hy.below ((Below.refl wr.heap.size wr).alloc (Nat.le_refl _) (.cells #[.int .i64 x, .slice (some ⟨g1, o1, none⟩) d.size k1] 55)))
      have W1 := Lib.hid (HW.out.below ((Below.refl wr.heap.size wr).alloc (Nat.le_refl _) (.cells #[.int .i64 x, .slice (some ⟨g1, o1, none⟩) d.size k1] 55)))
      have N1 := Lib.hid (Cel.new wr 55 (.int .i64 x) (.slice (some ⟨g1, o1, none⟩) d.size k1))
      clear hy hgw
      go_upto_region 5 with fail
      generalize hX1 : wr.alloc (.cells #[.int .i64 x, .slice (some ⟨g1, o1, none⟩) d.size k1] 55) = X1 at *
      have hcv := conv_byt HY.out
      have n0 := N1.out.c0
      have n1 := N1.out.c1
      have f1 := W1.out.f 1
      clear c0 c1 hX1
      have W2 := Lib.hid (W1.out.below ((Below.refl X1.heap.size X1).alloc (Nat.le_refl _) (.cells #[.int .i64 x, .string d] 51)))
      have M2 : Hid ((X1.alloc (.cells #[.int .i64 x, .string d] 51)).cell? ⟨X1.heap.size, 0, none⟩ = some (.int .i64 x) ∧ (X1.alloc (.cells #[.int .i64 x, .string d] 51)).cell? ⟨X1.heap.size, 1, none⟩ = some (.string d)) := Lib.hid ⟨by rw [World.cell?_alloc_mark]; rfl, by rw [World.cell?_alloc_mark]; rfl⟩
      go_wp2_with (at_builtin; refine hold ?_)
      refine unhold ?_
      refine wpList_app_pc rfl (.tmp 16) (.tmp 23) rfl (w.heap.size + 2) _ _ rfl W2.out.own W2.out.ne x d _ _ rfl M2.out hlen ?Ab ?_
      case Ab => have := W2.out.hi; omega
      intro g5 nn5 k5 w5 ho5 hg5
      obtain ⟨z1, t1⟩ := W2.out.old hg5
      have W5 := Lib.hid (W2.out.put hg5 ho5 (by simp))
      rw [← HT.out] at W5
      clear ho5 hg5
      go_wp2_with fail
      generalize w5.setCell ⟨w.heap.size, 1, none⟩ (.slice (some ⟨g5, 0, none⟩) nn5 k5) = X5 at *
      go_roundw
      case rel => exact ⟨j + 1, _, by omega, by go_num, W5⟩
      case measure => simp [intOf]; omega
    · have hlt' : ¬ (j : Int) < (l.length : Int) := by omega
      rw [List.take_of_length_le (by omega)] at HW
      have f0 := HW.out.f 0
      have f1 := HW.out.f 1
      have f2 := HW.out.f 2
      have f3 := HW.out.f 3
      have r0 := HW.out.r 0
      have r1 := HW.out.r 1
      have r2 := HW.out.r 2
      have r3 := HW.out.r 3
      have t0 := HW.out.rt 0
      have t1 := HW.out.rt 1
      have t2 := HW.out.rt 2
      have t3 := HW.out.rt 3
      have FIN := Lib.hid HW.out.fin
      have HN := Lib.hid HW.out.ne
      obtain ⟨g3, k3, rfl, hc3, _, _⟩ := HW.out.own.sl HW.out.ne
      go_wp2_with fail
      obtain ⟨BF, FF, OF⟩ := FIN.out
      clear f0 f1 f2 f3 r0 r1 r2 r3
      have f0 := FF 0
      have f1 := FF 1
      have f2 := FF 2
      have f3 := FF 3
      have OF := Lib.hid OF
      have BF := Lib.hid BF
      clear FF FIN
      generalize ((((wr.setCell ⟨w.heap.size + 1, 0, none⟩ (.int .i64 rd)).setCell ⟨w.heap.size + 1, 1, none⟩ (.slice (some ⟨g3, 0, none⟩) l.length k3)).setCell ⟨w.heap.size + 1, 2, none⟩ (.int .i64 fi)).setCell ⟨w.heap.size + 1, 3, none⟩ (.int .i64 li)) = X6 at *
      refine bodyPost_ret (v := .agg #[.int .i64 rd, .slice (some ⟨g3, 0, none⟩) l.length k3, .int .i64 fi, .int .i64 li]) ?hr rfl ?_
      case hr => rw [results_cell_one rfl]; go_simp
      exact ⟨_, rfl, BF.out, OF.out, HN.out⟩
end Go.Proofs.Ythdhjjbgegcncaa
