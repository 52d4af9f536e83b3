/- The model's l13Tick. -/
import Derived.Test.YtlhjhdlpejpooabSRv
import Derived.Test.YtlhjhdlpejpooabAppTc
import Derived.Laws.ResultCell
import Derived.Deep.DeepCutAuto
namespace Go.Proofs.Ytlhjhdlpejpooab
open Go.RowKit
set_option linter.unusedVariables false
set_option linter.unusedSimpArgs false

theorem results_cell_1 {fn : Func} {p : Tmp} {ty : TypeId} (h : fn.results = #[.cell p ty]) (tmps : Array Value) (P : Program) (w : World) :
    (results fn tmps).run P w = ((asAddr (tmps.getD p undef)).run P w).andThen fun a w₁ => (loadVar ty a).run P w₁ := by
  simp only [results, h]
  simp [Sem.run_bind, Result.andThen]
/-- A register comes back, its row the call's own. -/
def GotRg (w : World) (r : Reg) (e : Ending) (w' : World) : Prop := ∃ v', e = .returned (.agg #[.int .i64 r.1, v']) ∧ OwnTc w' w.heap.size v' r.2 ∧ Below w.heap.size w w'
theorem RgV.kept {W W' : World} {b : Nat} {n : Int} {s : Value} {row : Option Nat} (h : RgV W b n s) (hg : W.grownBy W' row) (hr : some b ≠ row) : RgV W' b n s := ⟨hg.cell h.c0 hr, hg.cell h.c1 hr⟩
theorem RgV.far {W : World} {b c i : Nat} {n : Int} {s v : Value} (h : RgV W b n s) (hn : c ≠ b) : RgV (W.setCell ⟨c, i, none⟩ v) b n s :=
  ⟨(World.cell?_setCell_other _ _ _ _ (fun e => hn (by injection e))).trans h.c0, (World.cell?_setCell_other _ _ _ _ (fun e => hn (by injection e))).trans h.c1⟩
theorem RgV.set1 {W : World} {b : Nat} {n : Int} {s : Value} (h : RgV W b n s) (v : Value) : RgV (W.setCell ⟨b, 1, none⟩ v) b n v :=
  ⟨(World.cell?_setCell_other _ _ _ _ (by simp)).trans h.c0, World.cell?_setCell_same _ _ _ h.c1⟩
theorem RgV.set0 {W : World} {b : Nat} {n : Int} {s : Value} (h : RgV W b n s) (m : Int) : RgV (W.setCell ⟨b, 0, none⟩ (.int .i64 m)) b m s :=
  ⟨World.cell?_setCell_same _ _ _ h.c0, (World.cell?_setCell_other _ _ _ _ (by simp)).trans h.c1⟩
def Soft (W : World) (b : Nat) : Prop := ∀ i, W.frozen? ⟨b, i, none⟩ = false
theorem Soft.below {W W' : World} {b : Nat} (h : Soft W b) (hb : Below W.heap.size W W') (hlt : b < W.heap.size) : Soft W' b := fun i => (hb.frozen (p := ⟨b, i, none⟩) hlt).trans (h i)
theorem Soft.kept {W W' : World} {b : Nat} {row : Option Nat} (h : Soft W b) (hg : W.grownBy W' row) (hlt : b < W.heap.size) (hr : some b ≠ row) : Soft W' b := fun i => by rw [hg.frozen_far ⟨b, i, none⟩ hlt hr]; exact h i
theorem Soft.set {W : World} {b : Nat} (h : Soft W b) (a : Addr) (v : Value) : Soft (W.setCell a v) b := fun i => by rw [World.frozen?_setCell]; exact h i
theorem Soft.new (w : World) (c : Array Value) (T : TypeId) : Soft (w.alloc (.cells c T)) w.heap.size := fun i => World.frozen?_alloc_at _ _ _ i rfl

theorem OwnTc.sl {w : World} {B n c : Nat} {aa : Option Addr} {l : List Tic} (h : OwnTc w B (.slice aa n c) l) (hl : l ≠ []) : ∃ g, aa = some ⟨g, 0, none⟩ := by
  obtain ⟨h0, ⟨_, h1⟩ | ⟨g, c, cur, he, _⟩⟩ := h
  · exact absurd (List.length_eq_zero_iff.1 h1) hl
  · exact ⟨g, by injection he⟩
theorem OwnTc.far {w : World} {B b i : Nat} {v u : Value} {l : List Tic} (h : OwnTc w B v l) (hn : v.ownBlock ≠ some b) : OwnTc (w.setCell ⟨b, i, none⟩ u) B v l :=
  World.ownsRow.kept h (Lib.grownBy_setCell w b i _) (.inr hn)
/-- Where l13Tick stands: the parameter's block, the result's, the variable's, its row. -/
structure TS (w W : World) (pb rb ob g c : Nat) (n0 now : Int) (s : Value) (l : List Tic) : Prop where
  bel : Below w.heap.size w W
  par : RgV W pb n0 s
  zer : RgV W rb 0 (.slice none 0 0)
  zf : Soft W rb
  out : RgV W ob now (.slice (some ⟨g, 0, none⟩) l.length c)
  of : Soft W ob
  own : OwnTc W w.heap.size (.slice (some ⟨g, 0, none⟩) l.length c) l
  ne : g ≠ pb ∧ g ≠ rb ∧ g ≠ ob
  ord : w.heap.size ≤ pb ∧ pb < rb ∧ rb < ob
theorem TS.below {w W W' : World} {pb rb ob g c : Nat} {n0 now : Int} {s : Value} {l : List Tic} (h : TS w W pb rb ob g c n0 now s l) (hb : Below W.heap.size W W') : TS w W' pb rb ob g c n0 now s l :=
  ⟨h.bel.trans (hb.mono h.bel.size), h.par.below hb, h.zer.below hb, h.zf.below hb h.zer.lt, h.out.below hb, h.of.below hb h.out.lt, h.own.below hb, h.ne, h.ord⟩
theorem TS.append {w W W' : World} {pb rb ob g c g' c' : Nat} {n0 now : Int} {s : Value} {l l' : List Tic} (h : TS w W pb rb ob g c n0 now s l) (hg : W.grownBy W' (some g)) (hO : OwnTc W' w.heap.size (.slice (some ⟨g', 0, none⟩) l'.length c') l') (hn : g' = g ∨ g' = W.heap.size) :
    TS w (W'.setCell ⟨ob, 1, none⟩ (.slice (some ⟨g', 0, none⟩) l'.length c')) pb rb ob g' c' n0 now s l' := by
  obtain ⟨n1, n2, n3⟩ := h.ne
  obtain ⟨o1, o2, o3⟩ := h.ord
  have lo := h.out.lt
  have hgl : w.heap.size ≤ g ∧ g < W.heap.size := World.ownsRow.lt h.own g rfl
  have hn3 : g' ≠ ob := by omega
  have kp := h.par.kept hg (fun e => by injection e with e; omega)
  have kz := h.zer.kept hg (fun e => by injection e with e; omega)
  have ko := h.out.kept hg (fun e => by injection e with e; omega)
  have hb : Below w.heap.size w W' := h.bel.grown hg h.bel.size (fun j hj => by injection hj with hj; omega)
  exact {
    bel := hb.setCell (show w.heap.size ≤ ob by omega) _
    par := kp.far (by omega)
    zer := kz.far (by omega)
    zf := (h.zf.kept hg h.zer.lt (fun e => by injection e with e; omega)).set _ _
    out := ko.set1 _
    of := (h.of.kept hg h.out.lt (fun e => by injection e with e; omega)).set _ _
    own := World.ownsRow.kept hO (Lib.grownBy_setCell W' ob 1 _) (.inr fun e => hn3 (Option.some.inj e))
    ne := ⟨by omega, by omega, hn3⟩
    ord := ⟨o1, o2, o3⟩ }
theorem TS.start (w : World) (n0 now : Int) (s : Value) :
    TS w ((((w.alloc (.cells #[.int .i64 n0, s] 28)).alloc (.cells #[.int .i64 0, .slice none 0 0] 28)).alloc (.cells #[] 38)).alloc (.cells #[.int .i64 now, .slice (some ⟨w.heap.size + 1 + 1, 0, none⟩) 0 0] 28)) w.heap.size (w.heap.size + 1) (w.heap.size + 1 + 1 + 1) (w.heap.size + 1 + 1) 0 n0 now s [] := by
  obtain ⟨W1, e1⟩ : ∃ W1, W1 = w.alloc (.cells #[.int .i64 n0, s] 28) := ⟨_, rfl⟩
  have s1 : W1.heap.size = w.heap.size + 1 := by rw [e1]; simp
  have P1 : RgV W1 w.heap.size n0 s := by rw [e1]; exact RgV.new w n0 s _
  have B1 : Below w.heap.size w W1 := by rw [e1]; exact (Below.refl _ _).alloc (Nat.le_refl _) _
  rw [← e1]
  obtain ⟨W2, e2⟩ : ∃ W2, W2 = W1.alloc (.cells #[.int .i64 0, .slice none 0 0] 28) := ⟨_, rfl⟩
  have s2 : W2.heap.size = w.heap.size + 1 + 1 := by rw [e2]; simp [s1]
  have U2 : Below W1.heap.size W1 W2 := by rw [e2]; exact (Below.refl _ _).alloc (Nat.le_refl _) _
  have Z2 : RgV W2 (w.heap.size + 1) 0 (.slice none 0 0) := by rw [e2, ← s1]; exact RgV.new W1 0 _ _
  have F2 : Soft W2 (w.heap.size + 1) := by rw [e2, ← s1]; exact Soft.new W1 _ _
  rw [← e2]
  obtain ⟨W3, e3⟩ : ∃ W3, W3 = W2.alloc (.cells #[] 38) := ⟨_, rfl⟩
  have s3 : W3.heap.size = w.heap.size + 1 + 1 + 1 := by rw [e3]; simp [s2]
  have U3 : Below W2.heap.size W2 W3 := by rw [e3]; exact (Below.refl _ _).alloc (Nat.le_refl _) _
  have O3 : OwnTc W3 w.heap.size (.slice (some ⟨w.heap.size + 1 + 1, 0, none⟩) 0 0) [] := by rw [e3, ← s2]; exact own_new _ 2 w.heap.size W2 (by omega)
  rw [← e3]
  have U4 : Below W3.heap.size W3 (W3.alloc (.cells #[.int .i64 now, .slice (some ⟨w.heap.size + 1 + 1, 0, none⟩) 0 0] 28)) := (Below.refl _ _).alloc (Nat.le_refl _) _
  have P3 := (P1.below U2).below U3
  have Z3 := Z2.below U3
  exact {
    bel := ((B1.trans (U2.mono (by omega))).trans (U3.mono (by omega))).trans (U4.mono (by omega))
    par := P3.below U4
    zer := Z3.below U4
    zf := (F2.below U3 Z2.lt).below U4 Z3.lt
    out := by rw [← s3]; exact RgV.new W3 now _ _
    of := by rw [← s3]; exact Soft.new W3 _ _
    own := O3.below U4
    ne := ⟨by omega, by omega, by omega⟩
    ord := ⟨by omega, by omega, by omega⟩ }
theorem new_cells (w : World) (x y : Int) (T : TypeId) : CellsT (w.alloc (.cells #[.int .i64 x, .int .i64 y] T)).drew w.heap.size 0 [(x, y)] := fun q u hu => by
  have hq : q < 2 := by have := (List.getElem?_eq_some_iff.1 hu).1; rw [tcells_len] at this; simpa using this
  show (w.alloc (.cells #[.int .i64 x, .int .i64 y] T)).cell? ⟨w.heap.size, 0 + q, none⟩ = some u
  rw [Nat.zero_add, World.cell?_alloc_mark, ← hu]
  match q, hq with
  | 0, _ => rfl
  | 1, _ => rfl
theorem tick_take (now : Int) (l : List Tic) (j : Nat) (h : j < l.length) : tick now (l.take (j + 1)) = tick now (l.take j) ++ (if now - 10 ≤ (l.getD j (0, 0)).2 then [l.getD j (0, 0)] else []) := by
  rw [(takeT l j h).1]
  unfold tick
  rw [List.filter_append]
  congr 1
  split
  · rename_i hh; rw [List.filter_cons_of_pos (by simpa using hh)]; rfl
  · rename_i hh; rw [List.filter_cons_of_neg (by simpa using hh)]; rfl

set_option maxRecDepth 100000 in
set_option maxHeartbeats 4000000 in
theorem stick_any (n0 now : Int) (v : Value) (l : List Tic) (w : World) (hs : Tics w v l) (hl : l.length ≤ 1048576) (hnow : 0 ≤ now ∧ now ≤ 999) : Calls Try.prog 40 #[.agg #[.int .i64 n0, v], .int .i64 now] w (GotRg w (now, tick now l)) := by
  obtain ⟨a, c, rfl, hs⟩ := hs
  have HC := Lib.hid hs
  clear hs
  obtain ⟨hn0, hn9⟩ := hnow
  have hw1 : IntKind.i64.wrap (now - 10) = now - 10 := IntWalk.i64_in _ (by omega)
  have S0 := Lib.hid (TS.start w n0 now (.slice a l.length c))
  go_enter Try.func40, Try.ntmps40
  go_wp2_with fail
  generalize (((w.alloc (.cells #[.int .i64 n0, .slice a l.length c] 28)).alloc (.cells #[.int .i64 0, .slice none 0 0] 28)).alloc (.cells #[] 38)).alloc (.cells #[.int .i64 now, .slice (some ⟨w.heap.size + 1 + 1, 0, none⟩) 0 0] 28) = W0 at S0 ⊢
  generalize w.heap.size + 1 + 1 + 1 = ob at S0 ⊢
  generalize w.heap.size + 1 + 1 = g0 at S0
  generalize w.heap.size + 1 = rb at S0 ⊢
  go_loopw [6] (fun iv wr => ∃ (j g' c' : Nat), j ≤ l.length ∧ iv = .int .i64 (j : Int) ∧ Hid (TS w wr w.heap.size rb ob g' c' n0 now (.slice a l.length c) (tick now (l.take j)))) (fun iv _ => l.length - (intOf iv).toNat)
  case atStart => exact ⟨0, g0, 0, Nat.zero_le _, rfl, S0⟩
  case round =>
    obtain ⟨j, g', c', hj, rfl, HS⟩ := hrel
    obtain ⟨r0, r1⟩ := HS.out.par
    by_cases hlt : j < l.length
    · have hlt' : (j : Int) < (l.length : Int) := by omega
      obtain ⟨g, o, rfl, hc⟩ := HC.out (by rintro rfl; simp at hlt)
      obtain ⟨d0, d1⟩ := hc j hlt
      have hg := World.block_lt_of_cell? w _ d0
      have e0 := (HS.out.bel.cell (p := ⟨g, o + j * 2, none⟩) hg).trans d0
      have e1 := (HS.out.bel.cell (p := ⟨g, o + j * 2 + 1, none⟩) hg).trans d1
      clear d0 d1 hc hg
      have HT := Lib.hid (tick_take now l j hlt)
      obtain ⟨t, ht⟩ : ∃ t, t = l.getD j (0, 0) := ⟨_, rfl⟩
      rw [← ht] at e0 e1 HT
      clear ht
      obtain ⟨x, y⟩ := t
      by_cases hk : now - 10 ≤ y
      · have hd : decide (now - 10 ≤ y) = true := decide_eq_true hk
        have HT2 := Lib.hid (HT.out.trans (by rw [if_pos hk]))
        clear HT hk
        have HTL : (tick now (l.take j)).length ≤ 1048576 := Nat.le_trans (List.length_filter_le _ _) (by rw [List.length_take]; omega)
        generalize tick now (l.take j) = m at *
        obtain ⟨p0, p1⟩ := HS.out.out
        have f1 := HS.out.of 1
        have SA := Lib.hid (HS.out.below ((Below.refl _ _).alloc (Nat.le_refl _) (.cells #[.int .i64 x, .int .i64 y] 38)))
        have SD := Lib.hid (SA.out.below (Below.refl _ _).drew)
        have hsrc : Hid (SrcT (wr.alloc (.cells #[.int .i64 x, .int .i64 y] 38)).drew (.slice (some ⟨wr.heap.size, 0, none⟩) 1 1) [(x, y)]) := Lib.hid (.inr ⟨_, 1, rfl, fun _ => ⟨_, _, rfl, new_cells wr x y 38⟩⟩)
        have a0 := SA.out.par.c0
        have a1 := SA.out.par.c1
        have b1 := SA.out.out.c1
        have e2 := cell?_alloc_old (.cells #[.int .i64 x, .int .i64 y] 38) e0
        have e3 := cell?_alloc_old (.cells #[.int .i64 x, .int .i64 y] 38) e1
        have hsz : wr.heap.size < (wr.alloc (.cells #[.int .i64 x, .int .i64 y] 38)).drew.heap.size := by simp
        go_upto_region 6 with fail
        go_region_law ((refine step_append_tc _ (by rfl) _ _ (by rfl) w.heap.size _ m [(x, y)] (by rfl) SD.out.own _ (by rfl) hsrc.out (by simp; omega) SD.out.bel.size ?_; intro aa nn cc w8 hO8 hnn hg8 hgg8 hnil; have ko1 := (SD.out.out.kept hg8 (fun e => SD.out.ne.2.2 (Option.some.inj e).symm)).c1; have kf1 := (SD.out.of.kept hg8 SD.out.out.lt (fun e => SD.out.ne.2.2 (Option.some.inj e).symm)) 1))
        all_goals
          obtain ⟨g8, rfl⟩ := OwnTc.sl hO8 (by simp)
          have S9 : Hid (TS w (w8.setCell ⟨ob, 1, none⟩ (.slice (some ⟨g8, 0, none⟩) nn cc)) w.heap.size rb ob g8 cc n0 now (.slice (some ⟨g, o, none⟩) l.length c) (m ++ [(x, y)])) := Lib.hid (by
            have k := SD.out.append (g' := g8) (c' := cc) (l' := m ++ [(x, y)]) hg8 (by rw [← hnn.out]; exact hO8) (by
              rcases hgg8 with h | h
              · exact .inl (Option.some.inj h)
              · exact .inr (Option.some.inj h))
            rw [hnn.out]; exact k)
          clear hO8 hg8 hgg8 hnil ko1 kf1 e2 e3 a0 a1 b1 e0 e1 p0 p1 f1 r0 r1 hnn hsz
          go_wp2_with fail
          go_roundw
          case rel => exact ⟨j + 1, g8, cc, by omega, by go_num, by rw [HT2.out]; exact S9⟩
          case measure => simp [intOf]; omega
      · have hd : decide (now - 10 ≤ y) = false := decide_eq_false hk
        have HT2 := Lib.hid (HT.out.trans (by rw [if_neg hk, List.append_nil]))
        clear HT hk
        go_wp2_with fail
        go_roundw
        case rel => exact ⟨j + 1, g', c', by omega, by go_num, by rw [HT2.out]; exact HS⟩
        case measure => simp [intOf]; omega
    · have hlt' : ¬ (j : Int) < (l.length : Int) := by omega
      rw [List.take_of_length_le (by omega)] at HS
      have HO := HS
      obtain ⟨p0, p1⟩ := HS.out.out
      obtain ⟨z0, z1⟩ := HS.out.zer
      have f0 := HS.out.zf 0
      have f1 := HS.out.zf 1
      have hne : g' ≠ rb := HS.out.ne.2.1
      have KR : Hid (RgV ((wr.setCell ⟨rb, 0, none⟩ (.int .i64 now)).setCell ⟨rb, 1, none⟩ (.slice (some ⟨g', 0, none⟩) (tick now l).length c')) rb now (.slice (some ⟨g', 0, none⟩) (tick now l).length c')) := Lib.hid ((HS.out.zer.set0 now).set1 _)
      have BE : Hid (Below w.heap.size w ((wr.setCell ⟨rb, 0, none⟩ (.int .i64 now)).setCell ⟨rb, 1, none⟩ (.slice (some ⟨g', 0, none⟩) (tick now l).length c'))) := Lib.hid ((HS.out.bel.setCell (show w.heap.size ≤ rb by have := HS.out.ord; omega) _).setCell (show w.heap.size ≤ rb by have := HS.out.ord; omega) _)
      have OE : Hid (OwnTc ((wr.setCell ⟨rb, 0, none⟩ (.int .i64 now)).setCell ⟨rb, 1, none⟩ (.slice (some ⟨g', 0, none⟩) (tick now l).length c')) w.heap.size (.slice (some ⟨g', 0, none⟩) (tick now l).length c') (tick now l)) := Lib.hid (OwnTc.far (OwnTc.far HS.out.own (fun e => hne (Option.some.inj e))) (fun e => hne (Option.some.inj e)))
      go_wp2_with fail
      generalize (wr.setCell ⟨rb, 0, none⟩ (.int .i64 now)).setCell ⟨rb, 1, none⟩ (.slice (some ⟨g', 0, none⟩) (tick now l).length c') = WF at KR BE OE ⊢
      obtain ⟨k0, k1⟩ := KR.out
      refine bodyPost_ret (v := .agg #[.int .i64 now, .slice (some ⟨g', 0, none⟩) (tick now l).length c']) ?hr rfl ?_
      case hr => rw [results_cell_1 rfl]; go_simp
      exact ⟨_, rfl, OE.out, BE.out⟩

end Go.Proofs.Ytlhjhdlpejpooab
