/- One window of an array is written: acknowledge, lose; the array as a slice of its own. -/
import Derived.Test.YtfggldholaibeaaWIn2
import Derived.StillTailTactics
import Derived.Lib.BufferMore
import Derived.Deep.Cut
import Derived.Deep.CutBlock
namespace Go.Proofs.Ytfggldholaibeaa
open Go.RowKit
set_option linter.unusedVariables false
set_option linter.unusedSimpArgs false

/-- The four cells from o on of block b hold p now; all else stands. -/
structure Upd (w w' : World) (b o : Nat) (p : Wd) : Prop where
  at_ : WdAt w' b o p
  cell : ∀ k, ¬ (o ≤ k ∧ k < o + 4) → w'.cell? ⟨b, k, none⟩ = w.cell? ⟨b, k, none⟩
  fr : ∀ k, w'.frozen? ⟨b, k, none⟩ = w.frozen? ⟨b, k, none⟩
  off : Off b w w'
theorem Upd.refl {w : World} {b o : Nat} {p : Wd} (h : WdAt w b o p) : Upd w w b o p := ⟨h, fun _ _ => rfl, fun _ => rfl, Off.refl _ _⟩
theorem Upd.drew {w w' : World} {b o : Nat} {p : Wd} (h : Upd w w' b o p) (n : Nat) : Upd w (w'.drewN n) b o p :=
  ⟨h.at_.below (below_drewN' (Below.refl w'.heap.size w') n) h.at_.lt, h.cell, h.fr, h.off.drew n⟩
theorem ne_off {b i j : Nat} (h : i ≠ j) : (⟨b, i, none⟩ : Addr) ≠ ⟨b, j, none⟩ := fun e => h (by injection e)
theorem Upd.keep {w w' : World} {b o : Nat} {p p' : Wd} (h : Upd w w' b o p) (j : Nat) (hj : j < 4) (v : Value) (ha : WdAt (w'.setCell ⟨b, o + j, none⟩ v) b o p') : Upd w (w'.setCell ⟨b, o + j, none⟩ v) b o p' :=
  ⟨ha, fun k hk => (World.cell?_setCell_other _ _ _ _ (ne_off (by omega))).trans (h.cell k hk), fun k => by rw [World.frozen?_setCell]; exact h.fr k, h.off.set _ _⟩
theorem Upd.set0 {w w' : World} {b o : Nat} {x y z t : Int} (h : Upd w w' b o (x, y, z, t)) (v : Int) : Upd w (w'.setCell ⟨b, o, none⟩ (.int .i64 v)) b o (v, y, z, t) := by
  obtain ⟨h0, h1, h2, h3⟩ := h.at_
  exact h.keep 0 (by omega) _ ⟨World.cell?_setCell_same _ _ _ h0, (World.cell?_setCell_other _ _ _ _ (ne_off (by omega))).trans h1, (World.cell?_setCell_other _ _ _ _ (ne_off (by omega))).trans h2, (World.cell?_setCell_other _ _ _ _ (ne_off (by omega))).trans h3⟩
theorem Upd.set1 {w w' : World} {b o : Nat} {x y z t : Int} (h : Upd w w' b o (x, y, z, t)) (v : Int) : Upd w (w'.setCell ⟨b, o + 1, none⟩ (.int .i64 v)) b o (x, v, z, t) := by
  obtain ⟨h0, h1, h2, h3⟩ := h.at_
  exact h.keep 1 (by omega) _ ⟨(World.cell?_setCell_other _ _ _ _ (ne_off (by omega))).trans h0, World.cell?_setCell_same _ _ _ h1, (World.cell?_setCell_other _ _ _ _ (ne_off (by omega))).trans h2, (World.cell?_setCell_other _ _ _ _ (ne_off (by omega))).trans h3⟩
theorem Upd.set2 {w w' : World} {b o : Nat} {x y z t : Int} (h : Upd w w' b o (x, y, z, t)) (v : Int) : Upd w (w'.setCell ⟨b, o + 2, none⟩ (.int .i64 v)) b o (x, y, v, t) := by
  obtain ⟨h0, h1, h2, h3⟩ := h.at_
  exact h.keep 2 (by omega) _ ⟨(World.cell?_setCell_other _ _ _ _ (ne_off (by omega))).trans h0, (World.cell?_setCell_other _ _ _ _ (ne_off (by omega))).trans h1, World.cell?_setCell_same _ _ _ h2, (World.cell?_setCell_other _ _ _ _ (ne_off (by omega))).trans h3⟩
theorem getD_set_w (l : List Wd) (i k : Nat) (p : Wd) (hi : i < l.length) : (l.set i p).getD k wdD = if i = k then p else l.getD k wdD := by
  rw [List.getD_eq_getElem?_getD, List.getElem?_set]
  split
  · rename_i h; subst h; simp [hi]
  · rw [List.getD_eq_getElem?_getD]
theorem Wn.upd {w w' : World} {b i : Nat} {l : List Wd} {p : Wd} (h : Wn w b l) (hl : l.length ≤ 4) (hi : i < l.length) (u : Upd w w' b (i * 4) p) : Wn w' b (l.set i p) := by
  refine ⟨fun k hk => ?_, ?_⟩
  · rw [getD_set_w l i k p hi]
    rw [List.length_set] at hk
    split
    · rename_i e; subst e; exact u.at_
    · obtain ⟨h0, h1, h2, h3⟩ := h.rows k hk
      exact ⟨(u.cell _ (by omega)).trans h0, (u.cell _ (by omega)).trans h1, (u.cell _ (by omega)).trans h2, (u.cell _ (by omega)).trans h3⟩
  · rw [List.length_set]; exact (u.cell 16 (by omega)).trans h.cnt

def Wrote (w : World) (b o : Nat) (p : Wd) (e : Ending) (w' : World) : Prop := e = .returned (.tuple #[]) ∧ Upd w w' b o p
set_option maxRecDepth 100000 in
set_option maxHeartbeats 4000000 in
theorem ack_any (b o : Nat) (x y z t n : Int) (w : World) (h : WdAt w b o (x, y, z, t)) (fz : ∀ k, w.frozen? ⟨b, k, none⟩ = false) (hok : wok1 (x, y, z, t)) (hn : 0 ≤ n ∧ n ≤ 1000) :
    Calls Try.prog 34 #[.pointer (some ⟨b, o, none⟩), .int .i64 n] w (Wrote w b o (ack1 n (x, y, z, t))) := by
  obtain ⟨⟨x1, x2⟩, ⟨y1, y2⟩, ⟨z1, z2⟩, _⟩ := hok
  simp only at x1 x2 y1 y2 z1 z2
  obtain ⟨n1, n2⟩ := hn
  have U := Lib.hid (Upd.refl h)
  have FZ := Lib.hid fz
  have c0 := h.1
  have c1 := h.2.1
  have w1 : wrap64 (x + 1) = x + 1 := by unfold wrap64; omega
  have w2 : wrap64 (z + n) = z + n := by unfold wrap64; omega
  have w3 : wrap64 (z + n - 1000) = z + n - 1000 := by unfold wrap64; omega
  clear h fz
  have HA := Lib.hid (show ack1 n (x, y, z, t) = if x < y then (x + 1, y, z, t) else if 1000 ≤ z + n then (min (x + 1) 64, y, z + n - 1000, t) else (x, y, z + n, t) from rfl)
  rw [HA.out]
  by_cases hxy : x < y
  · rw [if_pos hxy]
    go_enter Try.func34, Try.ntmps34
    go_wp2_with fail
    go_quiet (fail)
    have U1 := Lib.hid (U.out.drew nq)
    generalize w.drewN nq = w0 at U1 ⊢
    clear c0 c1
    obtain ⟨c0, c1, c2, c3⟩ := U1.out.at_
    have f0 := (U1.out.fr o).trans (FZ.out _)
    have U2 := Lib.hid (U1.out.set0 (x + 1))
    go_wp2_with fail
    go_end0
    exact ⟨rfl, U2.out⟩
  · rw [if_neg hxy]
    by_cases hzn : 1000 ≤ z + n
    · rw [if_pos hzn]
      by_cases h64 : x + 1 ≤ 64
      all_goals
        go_enter Try.func34, Try.ntmps34
        go_wp2_with fail
        go_quiet (fail)
        have U1 := Lib.hid (U.out.drew nq)
        generalize w.drewN nq = w0 at U1 ⊢
        clear c0 c1
        obtain ⟨c0, c1, c2, c3⟩ := U1.out.at_
        have f0 := (U1.out.fr o).trans (FZ.out _)
        have f2 := (U1.out.fr (o + 2)).trans (FZ.out _)
        have U2 := Lib.hid (U1.out.set2 (z + n))
        go_upto_region 3 with fail
        generalize w0.setCell ⟨b, o + 2, none⟩ (.int .i64 (z + n)) = w1 at U2 ⊢
        clear c0 c1 c2 c3 f0 f2
        obtain ⟨c0, c1, c2, c3⟩ := U2.out.at_
        have f0 := (U2.out.fr o).trans (FZ.out _)
        have f2 := (U2.out.fr (o + 2)).trans (FZ.out _)
        have U3 := Lib.hid (U2.out.set2 (z + n - 1000))
        go_upto_region 5 with fail
        generalize w1.setCell ⟨b, o + 2, none⟩ (.int .i64 (z + n - 1000)) = w2 at U3 ⊢
        clear c0 c1 c2 c3 f0 f2
        obtain ⟨c0, c1, c2, c3⟩ := U3.out.at_
        have f0 := (U3.out.fr o).trans (FZ.out _)
        have U4 := Lib.hid (U3.out.set0 (min (x + 1) 64))
        first
          | rw [show min (x + 1) 64 = x + 1 by omega] at U4 ⊢
          | rw [show min (x + 1) 64 = 64 by omega] at U4 ⊢
        go_wp2_with fail
        go_end0
        exact ⟨rfl, U4.out⟩
    · rw [if_neg hzn]
      go_enter Try.func34, Try.ntmps34
      go_wp2_with fail
      go_quiet (fail)
      have U1 := Lib.hid (U.out.drew nq)
      generalize w.drewN nq = w0 at U1 ⊢
      clear c0 c1
      obtain ⟨c0, c1, c2, c3⟩ := U1.out.at_
      have f0 := (U1.out.fr o).trans (FZ.out _)
      have f2 := (U1.out.fr (o + 2)).trans (FZ.out _)
      have U2 := Lib.hid (U1.out.set2 (z + n))
      go_upto_region 3 with fail
      generalize w0.setCell ⟨b, o + 2, none⟩ (.int .i64 (z + n)) = w1 at U2 ⊢
      clear c0 c1 c2 c3 f0 f2
      obtain ⟨c0, c1, c2, c3⟩ := U2.out.at_
      go_wp2_with fail
      go_end0
      exact ⟨rfl, U2.out⟩

set_option maxRecDepth 100000 in
set_option maxHeartbeats 4000000 in
theorem lose_any (b o : Nat) (x y z t : Int) (w : World) (h : WdAt w b o (x, y, z, t)) (fz : ∀ k, w.frozen? ⟨b, k, none⟩ = false) (hok : wok1 (x, y, z, t)) :
    Calls Try.prog 37 #[.pointer (some ⟨b, o, none⟩)] w (Wrote w b o (loss1 (x, y, z, t))) := by
  obtain ⟨⟨x1, x2⟩, _⟩ := hok
  simp only at x1 x2
  have U := Lib.hid (Upd.refl h)
  have FZ := Lib.hid fz
  have HA := Lib.hid (show loss1 (x, y, z, t) = (max (x / 2) 1, max (x / 2) 1, 0, t) from rfl)
  rw [HA.out]
  obtain ⟨m, hm⟩ : ∃ m, max (x / 2) 1 = m := ⟨_, rfl⟩
  rw [hm]
  have HM := Lib.hid hm
  clear hm
  obtain ⟨c0, c1, c2, c3⟩ := h
  have f0 := fz o
  have f1 := fz (o + 1)
  have f2 := fz (o + 2)
  have U4 := Lib.hid (((U.out.set0 m).set1 m).set2 0)
  clear fz
  by_cases hm1 : 1 ≤ x / 2
  · rw [show m = x / 2 by have := HM.out; omega] at U4 ⊢
    go_enter Try.func37, Try.ntmps37
    go_wp2_with fail
    go_end0
    exact ⟨rfl, U4.out⟩
  · rw [show m = 1 by have := HM.out; omega] at U4 ⊢
    go_enter Try.func37, Try.ntmps37
    go_wp2_with fail
    go_end0
    exact ⟨rfl, U4.out⟩

/-- What the two that change a window answer. -/
def GotWs (w : World) (l : List Wd) (q : Bool) (e : Ending) (w' : World) : Prop := ∃ v', e = .returned (.tuple #[v', .bool q]) ∧ OwnW w' w.heap.size v' l ∧ (q = true → v'.ownBlock ≠ none) ∧ Below w.heap.size w w'
def GotW (w : World) (l : List Wd) (e : Ending) (w' : World) : Prop := ∃ v', e = .returned v' ∧ OwnW w' w.heap.size v' l ∧ v'.ownBlock ≠ none ∧ Below w.heap.size w w'
set_option maxRecDepth 100000 in
set_option maxHeartbeats 4000000 in
theorem clone_any (g o c : Nat) (l : List Wd) (w : World) (h : Wds w (.slice (some ⟨g, o, none⟩) l.length c) l) (hl : l.length ≤ 1048576) : Calls Try.prog 40 #[.slice (some ⟨g, o, none⟩) l.length c] w (GotW w l) := by
  have U : Below w.heap.size w (w.alloc (.cells #[] 35)) := (Below.refl _ _).alloc (Nat.le_refl _) _
  have O := Lib.hid (OwnW.new w.heap.size w (Nat.le_refl _))
  have S := Lib.hid (SrcW.of (h.below U) (.inl (by simp [Value.ownBlock])))
  have B := Lib.hid U
  have HQ := Lib.run_eql_slice_some_nil (P := Try.prog) w (t := 25) ⟨g, o, none⟩ l.length c Try.underlying25
  clear U
  go_enter Try.func40, Try.ntmps40
  go_wp2_with (at_builtin; refine wpList_app_wd _ rfl _ _ rfl w.heap.size _ [] l rfl O.out _ rfl S.out ?c1 ?c2 ?_)
  case c1 => simp; omega
  case c2 => simp
  intro aa nn cc w3 hO hnn hg hgg hnil
  have hne : (Value.slice aa nn cc).ownBlock ≠ none := fun e => by rcases hgg with h | h <;> (rw [h] at e; cases e)
  have B3 := Lib.hid (B.out.grown hg B.out.size (fun q hq => by simp [Value.ownBlock] at hq; omega))
  have HO := Lib.hid (show OwnW w3 w.heap.size (.slice aa nn cc) l by simpa using hO)
  have HN := Lib.hid hne
  clear hO hnn hg hgg hnil hne
  go_wp2_with fail
  go_ret
  exact ⟨_, rfl, HO.out, HN.out, B3.out⟩
set_option maxRecDepth 100000 in
set_option maxHeartbeats 4000000 in
theorem list_any (b : Nat) (l : List Wd) (w : World) (h : Wn w b l) (hl : l.length ≤ 4) : Calls Try.prog 35 #[.pointer (some ⟨b, 0, none⟩)] w (GotW w l) := by
  obtain ⟨W2, hW2⟩ : ∃ W2, ({ w with drawn := w.drawn + 1 } : World) = W2 := ⟨_, rfl⟩
  have hb : Below w.heap.size w W2 := by rw [← hW2]; exact (Below.refl _ _).drew
  have C := Lib.hid ((clone_any b 0 4 l W2 ((h.below hb).wds hl) (by omega)).mono fun e w' ⟨v, h1, h2, h3, h4⟩ => (show GotW w l e w' from ⟨v, h1, by have e : W2.heap.size = w.heap.size := (by rw [← hW2]); rw [← e]; exact h2, h3, hb.trans (h4.mono hb.size)⟩))
  have hcn := (h.below hb).cnt
  have hl4' : (l.length : Int) ≤ 4 := by omega
  clear h hb
  go_enter Try.func35, Try.ntmps35
  go_wp2_with fail
  refine wp_region_still_tail 8 (by kernel_rfl) (by kernel_rfl) ?_
  rw [hW2]
  clear hW2
  simp only [List.take_succ_cons, List.take_zero, List.drop_succ_cons, List.drop_zero]
  iterate 8 still_step
  refine wpStill_nil ?_
  go_wp2_with fail
  refine C.out.mono ?_
  rintro e w1 ⟨v, rfl, h1, h2, h3⟩
  have H1 := Lib.hid h1
  have H2 := Lib.hid h2
  have H3 := Lib.hid h3
  obtain ⟨a, cc, rfl⟩ := h1.shape
  clear h1 h2 h3
  go_wp2_with fail
  go_ret
  exact ⟨_, rfl, H1.out, H2.out, H3.out⟩
end Go.Proofs.Ytfggldholaibeaa
