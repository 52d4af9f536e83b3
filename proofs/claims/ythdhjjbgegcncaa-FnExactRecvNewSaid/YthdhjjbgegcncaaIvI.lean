/- Chapter 31, the program's intervals: add. -/
import Derived.Test.YthdhjjbgegcncaaIvF
import Derived.Test.YthdhjjbgegcncaaIvC
namespace Go.Proofs.Ythdhjjbgegcncaa
open Go.RowKit
set_option linter.unusedVariables false
set_option linter.unusedSimpArgs false

/-- An interval is not empty, and lies where a stream may lie. -/
def IB (p : Qc) : Prop := 0 ≤ p.1 ∧ p.1 + (p.2.size : Int) ≤ 400000 ∧ 0 < p.2.size
theorem join_ib {p q : Qc} (hp : IB p) (hq : IB q) (h1 : q.1 ≤ p.1 + (p.2.size : Int)) (h2 : p.1 ≤ q.1 + (q.2.size : Int)) : IB (join p q) := by
  obtain ⟨j1, j2, _⟩ := join_spec h1 h2
  unfold IB at *
  omega
/-- Where add stands: what is added in its box, both lists. -/
structure Aw (w W : World) (ax : Int) (V : Value) (ad : ByteArray) (bv hv : Value) (bf bh : List Qc) : Prop where
  bel : Below w.heap.size w W
  f : Frm W w.heap.size [.int .i64 ax, V]
  t : Thaw W w.heap.size
  typ : ∃ C m, W.heap[w.heap.size]? = some (.cells C 55 m)
  byt : Byt W V ad
  bf : Ivl W (w.heap.size + 1) bv bf
  bh : Ivl W (w.heap.size + 1) hv bh
  ne : bv.ownBlock ≠ hv.ownBlock
section
variable {w W W' : World} {ax : Int} {V : Value} {ad : ByteArray} {bv hv : Value} {bf bh : List Qc}
theorem Aw.hi (h : Aw w W ax V ad bv hv bf bh) : w.heap.size < W.heap.size := by
  obtain ⟨C, m, k⟩ := h.typ
  exact heap_lt k
theorem Aw.below (h : Aw w W ax V ad bv hv bf bh) (hb : Below W.heap.size W W') : Aw w W' ax V ad bv hv bf bh where
  bel := h.bel.trans (hb.mono h.bel.size)
  f := h.f.below hb h.hi
  t := h.t.below hb h.hi
  typ := by
    obtain ⟨C, m, k⟩ := h.typ
    exact ⟨C, m, (hb.block _ h.hi).trans k⟩
  byt := h.byt.below hb
  bf := h.bf.below hb
  bh := h.bh.below hb
  ne := h.ne
theorem Ivl.rows {w : World} {B : Nat} {v : Value} {l : List Qc} (h : Ivl w B v l) : ∀ k, v.ownBlock = some k → ∃ C T m, w.heap[k]? = some (.cells C T m) ∧ T ≠ 5 := by
  obtain ⟨L, h1, _, _⟩ := h
  exact h1.row
theorem frm_grown {w w' : World} {b : Nat} {vs : List Value} {row : Option Nat} (h : Frm w b vs) (hlt : b < w.heap.size) (hg : w.grownBy w' row) (hb : row ≠ some b) : Frm w' b vs := fun i =>
  (World.cell?_of_block (a := ⟨b, i, none⟩) (hg.block b hlt (fun e => hb e.symm))).trans (h i)
theorem thaw_grown {w w' : World} {b : Nat} {row : Option Nat} (h : Thaw w b) (hlt : b < w.heap.size) (hg : w.grownBy w' row) (hb : row ≠ some b) : Thaw w' b := fun i =>
  (World.frozen?_of_block (a := ⟨b, i, none⟩) (hg.block b hlt (fun e => hb e.symm))).trans (h i)
theorem Aw.putb {bv' : Value} {bf' : List Qc} (h : Aw w W ax V ad bv hv bf bh) (hg : W.grownBy W' bv.ownBlock) (ho : Ivl W' (w.heap.size + 1) bv' bf') (hn : bv'.ownBlock = bv.ownBlock ∨ bv'.ownBlock = some W.heap.size) : Aw w W' ax V ad bv' hv bf' bh := by
  have hlt : bv.ownBlock ≠ some w.heap.size := fun e => by have := h.bf.lo _ e; omega
  have hne : bv'.ownBlock ≠ hv.ownBlock := by
    rcases hn with hn | hn
    · rw [hn]; exact h.ne
    · rw [hn]
      obtain ⟨g, c, e, _, _, hl⟩ := h.bh.sl
      rw [e]
      intro e2
      have : W.heap.size = g := by simpa [Value.ownBlock] using e2
      omega
  refine ⟨h.bel.grown hg h.bel.size (fun k hk => by have := h.bf.lo _ hk; omega), frm_grown h.f h.hi hg hlt, thaw_grown h.t h.hi hg hlt, ?_, h.byt.grown hg h.bf.rows, ho, h.bh.kept hg fun k hk => ⟨fun e => h.ne (by rw [e, hk]), h.bf.rows k hk⟩, hne⟩
  obtain ⟨C, m, k⟩ := h.typ
  exact ⟨C, m, (hg.block _ h.hi (fun e => hlt e.symm)).trans k⟩
theorem Aw.puth {hv' : Value} {bh' : List Qc} (h : Aw w W ax V ad bv hv bf bh) (hg : W.grownBy W' hv.ownBlock) (ho : Ivl W' (w.heap.size + 1) hv' bh') (hn : hv'.ownBlock = hv.ownBlock ∨ hv'.ownBlock = some W.heap.size) : Aw w W' ax V ad bv hv' bf bh' := by
  have hlt : hv.ownBlock ≠ some w.heap.size := fun e => by have := h.bh.lo _ e; omega
  have hne : hv'.ownBlock ≠ bv.ownBlock := by
    rcases hn with hn | hn
    · rw [hn]; exact fun e => h.ne e.symm
    · rw [hn]
      obtain ⟨g, c, e, _, _, hl⟩ := h.bf.sl
      rw [e]
      intro e2
      have : W.heap.size = g := by simpa [Value.ownBlock] using e2
      omega
  refine ⟨h.bel.grown hg h.bel.size (fun k hk => by have := h.bh.lo _ hk; omega), frm_grown h.f h.hi hg hlt, thaw_grown h.t h.hi hg hlt, ?_, h.byt.grown hg h.bh.rows, h.bf.kept hg fun k hk => ⟨fun e => h.ne (by rw [e, hk]), h.bh.rows k hk⟩, ho, fun e => hne e.symm⟩
  obtain ⟨C, m, k⟩ := h.typ
  exact ⟨C, m, (hg.block _ h.hi (fun e => hlt e.symm)).trans k⟩
/-- Another interval is added. -/
theorem Aw.put {W2 : World} {jx : Int} {J : Value} {jd : ByteArray} (h : Aw w W2 ax V ad bv hv bf bh) (hj : Byt W2 J jd) : Aw w ((W2.setCell ⟨w.heap.size, 0, none⟩ (.int .i64 jx)).setCell ⟨w.heap.size, 1, none⟩ J) jx J jd bv hv bf bh := by
  have key : ∀ {W : World} {u : Value} {i : Nat}, (∃ C m, W.heap[w.heap.size]? = some (.cells C 55 m)) → (∃ C m, (W.setCell ⟨w.heap.size, i, none⟩ u).heap[w.heap.size]? = some (.cells C 55 m)) := by
    rintro W u i ⟨C, m, k⟩
    have hlt := heap_lt k
    have e := (Array.getElem?_eq_some_iff.1 k).2
    refine ⟨C.setIfInBounds i u, m, ?_⟩
    simp only [World.setCell, Array.getElem?_modify, if_true, k]
    rfl
  have hby : ∀ {W : World} {u : Value} {i : Nat} {v : Value} {d : ByteArray}, (∃ C m, W.heap[w.heap.size]? = some (.cells C 55 m)) → Byt W v d → Byt (W.setCell ⟨w.heap.size, i, none⟩ u) v d := by
    intro W u i v d ⟨C, m, k⟩ hv
    exact hv.grown (Lib.grownBy_setCell W w.heap.size i u) fun q hq => by injection hq with hq; subst hq; exact ⟨C, _, m, k, by decide⟩
  have hiv : ∀ {W : World} {u : Value} {i : Nat} {v : Value} {l : List Qc}, (∃ C m, W.heap[w.heap.size]? = some (.cells C 55 m)) → Ivl W (w.heap.size + 1) v l → Ivl (W.setCell ⟨w.heap.size, i, none⟩ u) (w.heap.size + 1) v l := by
    intro W u i v l ⟨C, m, k⟩ hv
    exact hv.far (fun e => by have := hv.lo _ e; omega) ⟨C, _, m, k, by decide⟩
  have t1 := key (u := .int .i64 jx) (i := 0) h.typ
  exact ⟨(h.bel.setCell (p := ⟨w.heap.size, 0, none⟩) (Nat.le_refl _) _).setCell (p := ⟨w.heap.size, 1, none⟩) (Nat.le_refl _) _, (h.f.set (i := 0) (by simp) _).set (i := 1) (by simp) _, (h.t.set _ _).set _ _, key t1, hby t1 (hby h.typ hj), hiv t1 (hiv h.typ h.bf), hiv t1 (hiv h.typ h.bh), h.ne⟩
end
theorem Aw.start (w : World) (ax : Int) (V : Value) (ad : ByteArray) (hv : Byt w V ad) : Aw w (((w.alloc (.cells #[.int .i64 ax, V] 55)).alloc (.cells #[] 55)).alloc (.cells #[] 55)) ax V ad (.slice (some ⟨w.heap.size + 1, 0, none⟩) 0 0) (.slice (some ⟨w.heap.size + 1 + 1, 0, none⟩) 0 0) [] [] where
  bel := (((Below.refl _ _).alloc (Nat.le_refl _) _).alloc (by simp) _).alloc (by simp; omega) _
  f := ((Frm.new w 55 [.int .i64 ax, V]).below ((Below.refl (w.heap.size + 1) _).alloc (by simp) _) (by omega)).below ((Below.refl (w.heap.size + 1) _).alloc (by simp) _) (by omega)
  t := ((Thaw.new w 55 [.int .i64 ax, V]).below ((Below.refl (w.heap.size + 1) _).alloc (by simp) _) (by omega)).below ((Below.refl (w.heap.size + 1) _).alloc (by simp) _) (by omega)
  typ := ⟨_, _, by
    rw [Below.heap_alloc _ _ _ (by simp; omega), Below.heap_alloc _ _ _ (by simp)]
    exact heap_alloc_new w _⟩
  byt := hv.below ((((Below.refl w.heap.size w).alloc (Nat.le_refl _) _).alloc (by simp) _).alloc (by simp; omega) _)
  bf := by
    have := (Ivl.new (w := w.alloc (.cells #[.int .i64 ax, V] 55)) (B := w.heap.size + 1) (by simp)).below ((Below.refl _ _).alloc (Nat.le_refl _) (.cells #[] 55))
    simpa using this
  bh := by
    have := Ivl.new (w := (w.alloc (.cells #[.int .i64 ax, V] 55)).alloc (.cells #[] 55)) (B := w.heap.size + 1) (by simp)
    simpa using this
  ne := by simp [Value.ownBlock]

set_option maxRecDepth 100000 in
set_option maxHeartbeats 8000000 in
theorem ladd_any (B : Nat) (v U : Value) (l : List Qc) (x : Int) (d : ByteArray) (w : World) (h : Ivl w B v l) (hB : B ≤ w.heap.size) (hl : l.length ≤ 1000) (hz : ∀ p ∈ l, IB p) (hu : Byt w U d) (hq : 0 < d.size → IB (x, d)) :
    Calls Try.prog 43 #[v, .agg #[.int .i64 x, U]] w fun e w' => ∃ u, e = .returned u ∧ Below w.heap.size w w' ∧ Ivl w' B u (ladd l (x, d)) := by
  have H := Lib.hid h
  have HZ := Lib.hid hz
  obtain ⟨g, c, rfl, hc, hgB, hgw⟩ := h.sl
  have A0 := Lib.hid (Aw.start w x U d hu)
  have B0 := Lib.hid ((Below.refl w.heap.size w).alloc (Nat.le_refl _) (.cells #[.int .i64 x, U] 55))
  obtain ⟨g1, o1, c1, rfl, hc1⟩ := hu.shape
  clear h hz hu
  by_cases hd0 : d.size = 0
  · have HL : Hid (ladd l (x, d) = l) := Lib.hid (if_pos hd0)
    rw [HL.out]
    have hd0' : ((d.size : Int) == 0) = true := by rw [hd0]; rfl
    clear hq HL A0 hd0
    go_enter Try.func43, Try.ntmps43
    go_wp2_with fail
    go_ret
    exact ⟨_, rfl, B0.out, H.out.below B0.out⟩
  · have hd0' : ((d.size : Int) == 0) = false := by rw [beq_eq_false_iff_ne]; omega
    have HQ := Lib.hid (hq (by omega))
    have HL : Hid (ladd l (x, d) = (afold (x, d) l).1 ++ (afold (x, d) l).2.1 :: (afold (x, d) l).2.2) := Lib.hid (if_neg hd0)
    have HF0 : Hid (afold (x, d) (l.take 0) = ([], (x, d), [])) := Lib.hid rfl
    have hdd : 0 < d.size := by omega
    obtain ⟨R, hR⟩ : ∃ R, ladd l (x, d) = R := ⟨_, rfl⟩
    rw [hR] at HL ⊢
    clear hR
    clear hq B0 hd0
    go_enter Try.func43, Try.ntmps43
    go_wp2_with fail
    generalize ((w.alloc (.cells #[.int .i64 x, .slice (some ⟨g1, o1, none⟩) d.size c1] 55)).alloc (.cells #[] 55)).alloc (.cells #[] 55) = W0 at *
    go_loopw [5, 6, 18] (fun bv hv iv wr => ∃ (j : Nat) (ax : Int) (V : Value) (ad : ByteArray) (bf bh : List Qc), j ≤ l.length ∧ iv = .int .i64 (j : Int) ∧ bf.length ≤ j ∧ bh.length ≤ j ∧ Hid (afold (x, d) (l.take j) = (bf, (ax, ad), bh)) ∧ Hid (IB (ax, ad)) ∧ Hid (Aw w wr ax V ad bv hv bf bh)) (fun _ _ iv _ => l.length - (intOf iv).toNat)
    case atStart => exact ⟨0, x, _, d, [], [], Nat.zero_le _, rfl, Nat.le_refl _, Nat.le_refl _, HF0, HQ, A0⟩
    case round =>
      obtain ⟨j, ax, V, ad, bf, bh, hj, rfl, hbl, hhl, HF, HI, HA⟩ := hrel
      obtain ⟨ga, oa, ca, rfl, hca⟩ := HA.out.byt.shape
      obtain ⟨gb, cb, rfl, hcb, hgb, hgb2⟩ := HA.out.bf.sl
      obtain ⟨gh, ch, rfl, hch, hgh, hgh2⟩ := HA.out.bh.sl
      have hib := HI.out
      unfold IB at hib
      simp only at hib
      by_cases hlt : j < l.length
      · have hlt' : (j : Int) < (l.length : Int) := by omega
        obtain ⟨u, c0, c1', hy⟩ := (H.out.below HA.out.bel).at j hlt
        have hsz := HZ.out _ (List.getElem_mem hlt)
        have HT := Lib.hid (take_snoc' l j hlt)
        have HS := Lib.hid (afold_snoc (x, d) (l.take j) l[j])
        rw [← HT.out, HF.out] at HS
        generalize l[j] = p at *
        obtain ⟨y, e⟩ := p
        unfold IB at hsz
        simp only at c0 c1' hy hsz
        obtain ⟨g2, o2, c2, rfl, hc2⟩ := hy.shape
        have BE : Hid (Below wr.heap.size wr (wr.alloc (.cells #[.int .i64 y, .slice (some ⟨g2, o2, none⟩) e.size c2] 55))) := Lib.hid ((Below.refl _ _).alloc (Nat.le_refl _) _)
        have A1 := Lib.hid (HA.out.below BE.out)
        have E1 := Lib.hid (Cel.new wr 55 (.int .i64 y) (.slice (some ⟨g2, o2, none⟩) e.size c2))
        have Y1 := Lib.hid (hy.below BE.out)
        clear hy hgw hgb2 hgh2
        go_upto_region 8 with fail
        generalize hX1 : wr.alloc (.cells #[.int .i64 y, .slice (some ⟨g2, o2, none⟩) e.size c2] 55) = X1 at *
        have hs1 := hX1 ▸ (show wr.heap.size < (wr.alloc (.cells #[.int .i64 y, .slice (some ⟨g2, o2, none⟩) e.size c2] 55)).heap.size by simp)
        clear c0 c1' hX1
        generalize wr.heap.size = eb at *
        have q0 := Up.cell E1.out.c0
        have q1 := Up.cell E1.out.c1
        have r0 := Up.cell (A1.out.f 0)
        have r1 := Up.cell (A1.out.f 1)
        have CE : Hid (∀ m : Up X1, Calls Try.prog 42 #[.agg #[.int .i64 y, .slice (some ⟨g2, o2, none⟩) e.size c2]] m.w fun f w' => f = .returned (.int .i64 (y + (e.size : Int))) ∧ ∃ m' : Up X1, w' = m'.w) := Lib.hid (up_call fun W _ => iend_any y _ e.size c2 W (by omega) (by omega))
        by_cases h1 : y + (e.size : Int) < ax
        · have d1 : decide (y + (e.size : Int) < ax) = true := decide_eq_true h1
          have HS2 : Hid (afold (x, d) (l.take (j + 1)) = (bf ++ [(y, e)], (ax, ad), bh)) := Lib.hid (HS.out.trans (if_pos h1))
          clear HS
          refine up_region X1 (Below.refl _ _) (by kernel_rfl) (by kernel_rfl) ?_
          repeat (go_big_quiet_step ((first | (go_at_call 42; (with_reducible exact CE.out _)))))
          refine wpQuiet_nil ?_
          refine up_out ?_
          intro X2 hb2
          have A2 := Lib.hid (A1.out.below hb2)
          have E2 := Lib.hid (E1.out.below hb2)
          have Y2 := Lib.hid (Y1.out.below hb2)
          have e0 := E2.out.c0
          have e1 := E2.out.c1
          have S3 := Lib.hid (SrcIv.new Y2.out (x := y) 55)
          have BL : Hid (Below X2.heap.size X2 (X2.alloc (.cells #[.int .i64 y, .slice (some ⟨g2, o2, none⟩) e.size c2] 55))) := Lib.hid ((Below.refl _ _).alloc (Nat.le_refl _) _)
          have A3 := Lib.hid (A2.out.below BL.out)
          clear q0 q1 r0 r1 hb2 CE
          go_wp2_with (at_builtin; refine hold ?_)
          refine unhold ?_
          refine wpList_app_iv _ rfl (.tmp 31) (.tmp 33) rfl (w.heap.size + 1) _ _ [(y, e)] rfl A3.out.bf _ rfl S3.out ?Aa ?Ab ?_
          case Aa => simp; omega
          case Ab => exact A3.out.hi
          intro v5 w5 ho5 hg5 hn5
          have A5 := Lib.hid (A3.out.putb hg5 ho5 hn5)
          clear ho5 hg5 hn5
          go_wp2_with fail
          go_roundw
          case rel => exact ⟨j + 1, ax, _, ad, _, _, by omega, by go_num, by simp; omega, by omega, HS2, HI, A5⟩
          case measure => simp [intOf]; omega
        have d1 : decide (y + (e.size : Int) < ax) = false := decide_eq_false h1
        refine up_region X1 (Below.refl _ _) (by kernel_rfl) (by kernel_rfl) ?_
        repeat (go_big_quiet_step ((first | (go_at_call 42; (with_reducible exact CE.out _)))))
        refine wpQuiet_nil ?_
        refine up_out ?_
        intro X2 hb2
        have A2 := Lib.hid (A1.out.below hb2)
        have E2 := Lib.hid (E1.out.below hb2)
        have Y2 := Lib.hid (Y1.out.below hb2)
        clear q0 q1 r0 r1 hb2 CE
        have q0 := Up.cell E2.out.c0
        have q1 := Up.cell E2.out.c1
        have r0 := Up.cell (A2.out.f 0)
        have r1 := Up.cell (A2.out.f 1)
        have CA : Hid (∀ m : Up X2, Calls Try.prog 42 #[.agg #[.int .i64 ax, .slice (some ⟨ga, oa, none⟩) ad.size ca]] m.w fun f w' => f = .returned (.int .i64 (ax + (ad.size : Int))) ∧ ∃ m' : Up X2, w' = m'.w) := Lib.hid (up_call fun W _ => iend_any ax _ ad.size ca W (by omega) (by omega))
        go_upto_region 10 with fail
        by_cases h2 : ax + (ad.size : Int) < y
        · have d2 : decide (ax + (ad.size : Int) < y) = true := decide_eq_true h2
          have HS2 : Hid (afold (x, d) (l.take (j + 1)) = (bf, (ax, ad), bh ++ [(y, e)])) := Lib.hid (HS.out.trans ((if_neg h1).trans (if_pos h2)))
          clear HS
          refine up_region X2 (Below.refl _ _) (by kernel_rfl) (by kernel_rfl) ?_
          repeat (go_big_quiet_step ((first | (go_at_call 42; (with_reducible exact CA.out _)))))
          refine wpQuiet_nil ?_
          refine up_out ?_
          intro X3 hb3
          have A4 := Lib.hid (A2.out.below hb3)
          have E3 := Lib.hid (E2.out.below hb3)
          have Y3 := Lib.hid (Y2.out.below hb3)
          have e0 := E3.out.c0
          have e1 := E3.out.c1
          have S3 := Lib.hid (SrcIv.new Y3.out (x := y) 55)
          have BL : Hid (Below X3.heap.size X3 (X3.alloc (.cells #[.int .i64 y, .slice (some ⟨g2, o2, none⟩) e.size c2] 55))) := Lib.hid ((Below.refl _ _).alloc (Nat.le_refl _) _)
          have A3 := Lib.hid (A4.out.below BL.out)
          clear q0 q1 r0 r1 hb3 CA
          go_wp2_with (at_builtin; refine hold ?_)
          refine unhold ?_
          refine wpList_app_iv _ rfl (.tmp 41) (.tmp 43) rfl (w.heap.size + 1) _ _ [(y, e)] rfl A3.out.bh _ rfl S3.out ?Aa ?Ab ?_
          case Aa => simp; omega
          case Ab => exact A3.out.hi
          intro v5 w5 ho5 hg5 hn5
          have A5 := Lib.hid (A3.out.puth hg5 ho5 hn5)
          clear ho5 hg5 hn5
          go_wp2_with fail
          go_roundw
          case rel => exact ⟨j + 1, ax, _, ad, _, _, by omega, by go_num, by omega, by simp; omega, HS2, HI, A5⟩
          case measure => simp [intOf]; omega
        have d2 : decide (ax + (ad.size : Int) < y) = false := decide_eq_false h2
        have HS2 : Hid (afold (x, d) (l.take (j + 1)) = (bf, join (ax, ad) (y, e), bh)) := Lib.hid (HS.out.trans ((if_neg h1).trans (if_neg h2)))
        have HI2 : Hid (IB (join (ax, ad) (y, e))) := Lib.hid (join_ib HI.out ⟨hsz.1, hsz.2⟩ (by simp only; omega) (by simp only; omega))
        clear HS
        refine up_region X2 (Below.refl _ _) (by kernel_rfl) (by kernel_rfl) ?_
        repeat (go_big_quiet_step ((first | (go_at_call 42; (with_reducible exact CA.out _)))))
        refine wpQuiet_nil ?_
        refine up_out ?_
        intro X3 hb3
        have A4 := Lib.hid (A2.out.below hb3)
        have E3 := Lib.hid (E2.out.below hb3)
        have Y3 := Lib.hid (Y2.out.below hb3)
        have KJ := Lib.hid (ijoin_any ax y _ _ ad e X3 A4.out.byt Y3.out (by omega) (by omega) (by omega) (by omega) (by omega) (by omega))
        obtain ⟨⟨jx, jd⟩, hjj⟩ : ∃ q, join (ax, ad) (y, e) = q := ⟨_, rfl⟩
        rw [hjj] at HS2 HI2 KJ
        have e0 := E3.out.c0
        have e1 := E3.out.c1
        have f0 := A4.out.f 0
        have f1 := A4.out.f 1
        clear q0 q1 r0 r1 hb3 CA hjj
        go_wp2_with fail
        refine KJ.out.mono ?_
        rintro e9 w4 ⟨v4, rfl, hb4, hy4⟩
        have A5 := Lib.hid (A4.out.below hb4)
        have z0 := A5.out.f 0
        have z1 := A5.out.f 1
        have t0 := A5.out.t 0
        have t1 := A5.out.t 1
        have A6 := Lib.hid (A5.out.put (jx := jx) hy4)
        obtain ⟨g4, o4, c4, rfl, hc4⟩ := hy4.shape
        clear hb4 hy4 KJ
        go_wp2_with fail
        generalize (w4.setCell ⟨w.heap.size, 0, none⟩ (.int .i64 jx)).setCell ⟨w.heap.size, 1, none⟩ (.slice (some ⟨g4, o4, none⟩) jd.size c4) = W6 at *
        go_roundw
        case rel => exact ⟨j + 1, jx, _, jd, _, _, by omega, by go_num, by omega, by omega, HS2, HI2, A6⟩
        case measure => simp [intOf]; omega
      · have hlt' : ¬ (j : Int) < (l.length : Int) := by omega
        rw [List.take_of_length_le (by omega)] at HF
        have HR : Hid (R = bf ++ [(ax, ad)] ++ bh) := Lib.hid (by rw [HL.out, HF.out]; simp)
        have f0 := HA.out.f 0
        have f1 := HA.out.f 1
        have A1 := Lib.hid (HA.out.below ((Below.refl wr.heap.size wr).alloc (Nat.le_refl _) (.cells #[.int .i64 ax, .slice (some ⟨ga, oa, none⟩) ad.size ca] 55)))
        have S1 := Lib.hid (SrcIv.new HA.out.byt (x := ax) 55)
        have BL : Hid (Below (wr.alloc (.cells #[.int .i64 ax, .slice (some ⟨ga, oa, none⟩) ad.size ca] 55)).heap.size (wr.alloc (.cells #[.int .i64 ax, .slice (some ⟨ga, oa, none⟩) ad.size ca] 55)) ((wr.alloc (.cells #[.int .i64 ax, .slice (some ⟨ga, oa, none⟩) ad.size ca] 55)).alloc (.cells #[.slice (some ⟨gb, 0, none⟩) bf.length cb, .slice (some ⟨wr.heap.size, 0, none⟩) 1 1, .slice (some ⟨gh, 0, none⟩) bh.length ch] 58))) := Lib.hid ((Below.refl _ _).alloc (Nat.le_refl _) _)
        have A2 := Lib.hid (A1.out.below BL.out)
        have KC := Lib.hid (concatI_any (wr.heap.size + 1) (.slice (some ⟨gb, 0, none⟩) bf.length cb) (.slice (some ⟨wr.heap.size, 0, none⟩) 1 1) (.slice (some ⟨gh, 0, none⟩) bh.length ch) bf [(ax, ad)] bh ((wr.alloc (.cells #[.int .i64 ax, .slice (some ⟨ga, oa, none⟩) ad.size ca] 55)).alloc (.cells #[.slice (some ⟨gb, 0, none⟩) bf.length cb, .slice (some ⟨wr.heap.size, 0, none⟩) 1 1, .slice (some ⟨gh, 0, none⟩) bh.length ch] 58)) (by rw [show wr.heap.size + 1 = (wr.alloc (.cells #[.int .i64 ax, .slice (some ⟨ga, oa, none⟩) ad.size ca] 55)).heap.size by simp, World.cell?_alloc_mark]; rfl) (by rw [show wr.heap.size + 1 = (wr.alloc (.cells #[.int .i64 ax, .slice (some ⟨ga, oa, none⟩) ad.size ca] 55)).heap.size by simp, World.cell?_alloc_mark]; rfl) (by rw [show wr.heap.size + 1 = (wr.alloc (.cells #[.int .i64 ax, .slice (some ⟨ga, oa, none⟩) ad.size ca] 55)).heap.size by simp, World.cell?_alloc_mark]; rfl) A2.out.bf.src (S1.out.below BL.out) A2.out.bh.src (by omega) (by simp) (by omega) (by simp; omega))
        clear hgw
        go_wp2_with fail
        refine KC.out.mono ?_
        rintro e9 w4 ⟨v4, rfl, hb4, hy4⟩
        have BF := Lib.hid (A2.out.bel.trans (hb4.mono A2.out.bel.size))
        have HY := Lib.hid (hy4.lower (B' := B) (Nat.le_trans hB A2.out.bel.size))
        clear hb4 hy4
        go_wp2_with fail
        go_ret
        exact ⟨_, rfl, BF.out, by rw [HR.out]; exact HY.out⟩
end Go.Proofs.Ythdhjjbgegcncaa
