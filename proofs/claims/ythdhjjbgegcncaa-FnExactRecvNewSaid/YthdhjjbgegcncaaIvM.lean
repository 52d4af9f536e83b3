/- Chapter 31, the program: RecvGrant. -/
import Derived.Test.YthdhjjbgegcncaaIvL
namespace Go.Proofs.Ythdhjjbgegcncaa
open Go.RowKit
set_option linter.unusedVariables false
set_option linter.unusedSimpArgs false

theorem OwnPc.nil (w : World) (B : Nat) : OwnPc w B (.slice none 0 0) [] := World.ownsRow_nil w B 51 2
/-- Where a call stands that answers a stream: its box, the result's block. -/
structure Gw (w W : World) (rd : Int) (v : Value) (fi li : Int) : Prop where
  bel : Below w.heap.size w W
  f : Frm W w.heap.size [.int .i64 rd, v, .int .i64 fi, .int .i64 li]
  t : Thaw W w.heap.size
  r : Frm W (w.heap.size + 1) [.int .i64 0, .slice none 0 0, .int .i64 0, .int .i64 0]
  rt : Thaw W (w.heap.size + 1)
  typ : ∃ C m, W.heap[w.heap.size]? = some (.cells C 24 m)
theorem typ_set {W : World} {b i : Nat} {T : TypeId} {u : Value} (h : ∃ C m, W.heap[b]? = some (.cells C T m)) : ∃ C m, (W.setCell ⟨b, i, none⟩ u).heap[b]? = some (.cells C T m) := by
  obtain ⟨C, m, k⟩ := h
  refine ⟨C.setIfInBounds i u, m, ?_⟩
  simp only [World.setCell, Array.getElem?_modify, if_true, k]
  rfl
section
variable {w W W' : World} {rd fi li : Int} {v : Value}
theorem Gw.hi (h : Gw w W rd v fi li) : w.heap.size + 1 < W.heap.size := World.block_lt_of_cell? W _ (h.r 0)
theorem Gw.below (h : Gw w W rd v fi li) (hb : Below W.heap.size W W') : Gw w W' rd v fi li where
  bel := h.bel.trans (hb.mono h.bel.size)
  f := h.f.below hb (by have := h.hi; omega)
  t := h.t.below hb (by have := h.hi; omega)
  r := h.r.below hb h.hi
  rt := h.rt.below hb h.hi
  typ := by
    obtain ⟨C, m, k⟩ := h.typ
    exact ⟨C, m, (hb.block _ (heap_lt k)).trans k⟩
theorem Gw.start (w : World) (rd : Int) (v : Value) (fi li : Int) : Gw w ((w.alloc (.cells #[.int .i64 rd, v, .int .i64 fi, .int .i64 li] 24)).alloc (.cells #[.int .i64 0, .slice none 0 0, .int .i64 0, .int .i64 0] 24)) rd v fi li where
  bel := ((Below.refl _ _).alloc (Nat.le_refl _) _).alloc (by simp) _
  f := (Frm.new w 24 [.int .i64 rd, v, .int .i64 fi, .int .i64 li]).below ((Below.refl (w.heap.size + 1) _).alloc (by simp) _) (by omega)
  t := (Thaw.new w 24 [.int .i64 rd, v, .int .i64 fi, .int .i64 li]).below ((Below.refl (w.heap.size + 1) _).alloc (by simp) _) (by omega)
  r := by
    intro i
    simp
  rt := by
    intro i
    simp
  typ := ⟨_, _, by
    rw [Below.heap_alloc _ _ _ (by simp)]
    exact heap_alloc_new w _⟩
theorem Gw.sc (h : Gw w W rd v fi li) : W.cell? ⟨w.heap.size, 0, none⟩ = some (.int .i64 rd) ∧ W.cell? ⟨w.heap.size, 1, none⟩ = some v ∧ W.cell? ⟨w.heap.size, 2, none⟩ = some (.int .i64 fi) ∧ W.cell? ⟨w.heap.size, 3, none⟩ = some (.int .i64 li) := ⟨h.f 0, h.f 1, h.f 2, h.f 3⟩
theorem Gw.sc2 (h : Gw w W rd v fi li) (x0 x1 x2 x3 : Value) :
    ((((W.setCell ⟨w.heap.size + 1, 0, none⟩ x0).setCell ⟨w.heap.size + 1, 1, none⟩ x1).setCell ⟨w.heap.size + 1, 2, none⟩ x2).setCell ⟨w.heap.size + 1, 3, none⟩ x3).cell? ⟨w.heap.size, 0, none⟩ = some (.int .i64 rd) ∧
    ((((W.setCell ⟨w.heap.size + 1, 0, none⟩ x0).setCell ⟨w.heap.size + 1, 1, none⟩ x1).setCell ⟨w.heap.size + 1, 2, none⟩ x2).setCell ⟨w.heap.size + 1, 3, none⟩ x3).cell? ⟨w.heap.size, 1, none⟩ = some v ∧
    ((((W.setCell ⟨w.heap.size + 1, 0, none⟩ x0).setCell ⟨w.heap.size + 1, 1, none⟩ x1).setCell ⟨w.heap.size + 1, 2, none⟩ x2).setCell ⟨w.heap.size + 1, 3, none⟩ x3).cell? ⟨w.heap.size, 2, none⟩ = some (.int .i64 fi) ∧
    ((((W.setCell ⟨w.heap.size + 1, 0, none⟩ x0).setCell ⟨w.heap.size + 1, 1, none⟩ x1).setCell ⟨w.heap.size + 1, 2, none⟩ x2).setCell ⟨w.heap.size + 1, 3, none⟩ x3).cell? ⟨w.heap.size, 3, none⟩ = some (.int .i64 li) := by
  have k := ((((h.f.far (b' := w.heap.size + 1) (i := 0) (by omega) x0).far (b' := w.heap.size + 1) (i := 1) (by omega) x1).far (b' := w.heap.size + 1) (i := 2) (by omega) x2).far (b' := w.heap.size + 1) (i := 3) (by omega) x3)
  exact ⟨k 0, k 1, k 2, k 3⟩
/-- A store into another block. -/
theorem Gw.far (h : Gw w W rd v fi li) {b i : Nat} (hb : w.heap.size + 1 < b) (u : Value) : Gw w (W.setCell ⟨b, i, none⟩ u) rd v fi li :=
  ⟨h.bel.setCell (p := ⟨b, i, none⟩) (by show _ ≤ b; omega) _, h.f.far (by omega) _, h.t.set _ _, h.r.far (by omega) _, h.rt.set _ _, by
    obtain ⟨C, m, k⟩ := h.typ
    exact ⟨C, m, by rw [Below.heap_setCell _ _ _ _ (by show w.heap.size ≠ b; omega)]; exact k⟩⟩
/-- The result is stored. -/
theorem Gw.fin {B : Nat} {u : Value} {l : List Pc} (h : Gw w W rd v fi li) (ho : OwnPc W B u l) (hB : w.heap.size + 1 < B) (x0 x2 x3 : Value) :
    Below w.heap.size w ((((W.setCell ⟨w.heap.size + 1, 0, none⟩ x0).setCell ⟨w.heap.size + 1, 1, none⟩ u).setCell ⟨w.heap.size + 1, 2, none⟩ x2).setCell ⟨w.heap.size + 1, 3, none⟩ x3) ∧
    Frm ((((W.setCell ⟨w.heap.size + 1, 0, none⟩ x0).setCell ⟨w.heap.size + 1, 1, none⟩ u).setCell ⟨w.heap.size + 1, 2, none⟩ x2).setCell ⟨w.heap.size + 1, 3, none⟩ x3) (w.heap.size + 1) [x0, u, x2, x3] ∧
    OwnPc ((((W.setCell ⟨w.heap.size + 1, 0, none⟩ x0).setCell ⟨w.heap.size + 1, 1, none⟩ u).setCell ⟨w.heap.size + 1, 2, none⟩ x2).setCell ⟨w.heap.size + 1, 3, none⟩ x3) w.heap.size u l := by
  have hne : ∀ k, u.ownBlock = some k → w.heap.size + 1 ≠ k := fun k hk => by have := (World.ownsRow.lt ho k hk).1; omega
  refine ⟨Below.setCell (Below.setCell (Below.setCell (Below.setCell h.bel (p := ⟨w.heap.size + 1, 0, none⟩) (Nat.le_succ _) _) (p := ⟨w.heap.size + 1, 1, none⟩) (Nat.le_succ _) _) (p := ⟨w.heap.size + 1, 2, none⟩) (Nat.le_succ _) _) (p := ⟨w.heap.size + 1, 3, none⟩) (Nat.le_succ _) _, (((h.r.set (i := 0) (by simp) _).set (i := 1) (by simp) _).set (i := 2) (by simp) _).set (i := 3) (by simp) _, ?_⟩
  exact OwnPc.lower (own_far (own_far (own_far (own_far ho hne) hne) hne) hne) (by omega)
/-- A field of the box is stored. -/
theorem Gw.set0 (h : Gw w W rd v fi li) (x : Int) : Gw w (W.setCell ⟨w.heap.size, 0, none⟩ (.int .i64 x)) x v fi li :=
  ⟨h.bel.setCell (p := ⟨w.heap.size, 0, none⟩) (Nat.le_refl _) _, h.f.set (i := 0) (by simp) _, h.t.set _ _, h.r.far (by omega) _, h.rt.set _ _, typ_set h.typ⟩
theorem Gw.set2 (h : Gw w W rd v fi li) (x : Int) : Gw w (W.setCell ⟨w.heap.size, 2, none⟩ (.int .i64 x)) rd v x li :=
  ⟨h.bel.setCell (p := ⟨w.heap.size, 2, none⟩) (Nat.le_refl _) _, h.f.set (i := 2) (by simp) _, h.t.set _ _, h.r.far (by omega) _, h.rt.set _ _, typ_set h.typ⟩
theorem Gw.set3 (h : Gw w W rd v fi li) (x : Int) : Gw w (W.setCell ⟨w.heap.size, 3, none⟩ (.int .i64 x)) rd v fi x :=
  ⟨h.bel.setCell (p := ⟨w.heap.size, 3, none⟩) (Nat.le_refl _) _, h.f.set (i := 3) (by simp) _, h.t.set _ _, h.r.far (by omega) _, h.rt.set _ _, typ_set h.typ⟩
end

set_option maxRecDepth 100000 in
set_option maxHeartbeats 8000000 in
theorem irecvgrant_any (v : Value) (l : List Pc) (rd fi li n : Int) (w : World) (h : Pcn w v l) (hl : l.length ≤ 2000000) (hsz : ∀ p ∈ l, p.1 ≤ 9223372036854775807 ∧ p.2.size ≤ 2000000) :
    Calls Try.prog 28 #[.agg #[.int .i64 rd, v, .int .i64 fi, .int .i64 li], .int .i64 n] w (RGrantAns w rd l fi li n) := by
  have G0 := Lib.hid (Gw.start w rd v fi li)
  have CV := Lib.hid (irvval_any v l rd fi li _ (h.below G0.out.bel) hl hsz)
  have CU := Lib.hid (fun W => upTo_any n 30 W)
  have H := Lib.hid h
  obtain ⟨a, c, rfl, _⟩ := h
  clear hsz
  by_cases hv : rvok rd l fi li
  case neg =>
    rw [decide_eq_false hv] at CV
    refine rgrant_no (fun k => hv k.1) ?_
    clear hv CU
    go_enter Try.func28, Try.ntmps28
    go_wp2_with fail
    generalize (w.alloc (.cells #[.int .i64 rd, .slice a l.length c, .int .i64 fi, .int .i64 li] 24)).alloc (.cells #[.int .i64 0, .slice none 0 0, .int .i64 0, .int .i64 0] 24) = W0 at *
    refine CV.out.mono ?_
    rintro e w1 ⟨rfl, hb1⟩
    have G1 := Lib.hid (G0.out.below hb1)
    have FIN := Lib.hid (G1.out.fin (OwnPc.nil w1 (w.heap.size + 2)) (by omega) (.int .i64 0) (.int .i64 0) (.int .i64 0))
    have r0 := G1.out.r 0
    have r1 := G1.out.r 1
    have r2 := G1.out.r 2
    have r3 := G1.out.r 3
    have t0 := G1.out.rt 0
    have t1 := G1.out.rt 1
    have t2 := G1.out.rt 2
    have t3 := G1.out.rt 3
    clear hb1
    go_wp2_with fail
    obtain ⟨BF, FF, _⟩ := FIN.out
    have f0 := FF 0
    have f1 := FF 1
    have f2 := FF 2
    have f3 := FF 3
    refine bodyPost_ret (v := .tuple #[.agg #[.int .i64 0, .slice none 0 0, .int .i64 0, .int .i64 0], .bool false]) ?hr rfl ?_
    case hr => rw [results_cell_tmp rfl]; go_simp
    exact ⟨rfl, BF⟩
  rw [decide_eq_true hv] at CV
  by_cases hn : 0 ≤ n ∧ n ≤ 30
  case neg =>
    rw [decide_eq_false hn] at CU
    refine rgrant_no (fun k => hn k.2) ?_
    clear hv
    go_enter Try.func28, Try.ntmps28
    go_wp2_with fail
    generalize (w.alloc (.cells #[.int .i64 rd, .slice a l.length c, .int .i64 fi, .int .i64 li] 24)).alloc (.cells #[.int .i64 0, .slice none 0 0, .int .i64 0, .int .i64 0] 24) = W0 at *
    refine CV.out.mono ?_
    rintro e w1 ⟨rfl, hb1⟩
    have G1 := Lib.hid (G0.out.below hb1)
    have FIN := Lib.hid (G1.out.fin (OwnPc.nil w1 (w.heap.size + 2)) (by omega) (.int .i64 0) (.int .i64 0) (.int .i64 0))
    have r0 := G1.out.r 0
    have r1 := G1.out.r 1
    have r2 := G1.out.r 2
    have r3 := G1.out.r 3
    have t0 := G1.out.rt 0
    have t1 := G1.out.rt 1
    have t2 := G1.out.rt 2
    have t3 := G1.out.rt 3
    clear hb1
    go_wp2_with fail
    refine (CU.out _).mono ?_
    rintro e w9 ⟨rfl, rfl⟩
    go_wp2_with fail
    obtain ⟨BF, FF, _⟩ := FIN.out
    have f0 := FF 0
    have f1 := FF 1
    have f2 := FF 2
    have f3 := FF 3
    refine bodyPost_ret (v := .tuple #[.agg #[.int .i64 0, .slice none 0 0, .int .i64 0, .int .i64 0], .bool false]) ?hr rfl ?_
    case hr => rw [results_cell_tmp rfl]; go_simp
    exact ⟨rfl, BF⟩
  rw [decide_eq_true hn] at CU
  obtain ⟨hib, hl30⟩ := rvok_sz hv
  have KW := Lib.hid (fun W x (hW : Below w.heap.size w W) => waiting_any (.slice a l.length c) l rd fi x W (H.out.below hW) (by omega) (IB'.isz hib))
  have KX := Lib.hid (fun W x B s (hs : Ivl W B s l) => withw_any B (.slice a l.length c) s l rd fi x W hs (by omega) ⟨_, _, _, rfl⟩)
  obtain ⟨m, hm⟩ : ∃ m, max li n = m := ⟨_, rfl⟩
  have HM : Hid (m = if n < li then li else n) := Lib.hid (by rw [← hm]; split <;> omega)
  obtain ⟨q, hq⟩ : ∃ q, decide (li ≤ n) = q := ⟨_, rfl⟩
  refine rgrant_yes ⟨hv, hn⟩ HM.out hq.symm ?_
  clear hv hib hn HM hl
  go_enter Try.func28, Try.ntmps28
  go_wp2_with fail
  generalize (w.alloc (.cells #[.int .i64 rd, .slice a l.length c, .int .i64 fi, .int .i64 li] 24)).alloc (.cells #[.int .i64 0, .slice none 0 0, .int .i64 0, .int .i64 0] 24) = W0 at *
  refine CV.out.mono ?_
  rintro e w1 ⟨rfl, hb1⟩
  have G1 := Lib.hid (G0.out.below hb1)
  clear hb1
  go_wp2_with fail
  refine (CU.out _).mono ?_
  rintro e w9 ⟨rfl, rfl⟩
  have q3 := G1.out.f 3
  have z3 := G1.out.t 3
  have G2 := Lib.hid (G1.out.set3 m)
  go_upto_region 5 with fail
  generalize w1.setCell ⟨w.heap.size, 3, none⟩ (.int .i64 m) = W2 at *
  clear q3 z3
  have G3 := Lib.hid (G2.out.below (Below.refl _ _).drew)
  have k0 := G3.out.sc
  go_region_held3 (fun W => W.cell? ⟨w.heap.size, 0, none⟩ = some (.int .i64 rd) ∧ W.cell? ⟨w.heap.size, 1, none⟩ = some (.slice a l.length c) ∧ W.cell? ⟨w.heap.size, 2, none⟩ = some (.int .i64 fi) ∧ W.cell? ⟨w.heap.size, 3, none⟩ = some (.int .i64 m)) (with_reducible first | assumption | exact k0 | exact k1 | exact k2 | exact k3) ((first
    | (go_at_call 39; (with_reducible refine (KW.out _ _ G3.out.bel).mono ?_); rintro e w3 ⟨s, rfl, hb3, hi3⟩; have G4 := Lib.hid (G3.out.below hb3); have k1 := G4.out.sc; have HI := Lib.hid hi3; clear hi3)
    | (go_at_call 41; (with_reducible refine (KX.out _ _ _ _ HI.out).mono ?_); rintro e w4 ⟨u, rfl, hb4, ho4, hn4⟩; have G5 := Lib.hid (G4.out.below hb4); have k2 := G5.out.sc; obtain ⟨g5, c5, rfl, _⟩ := ho4.sl hn4; have k3 := G5.out.sc2 (.int .i64 rd) (.slice (some ⟨g5, 0, none⟩) l.length c5) (.int .i64 fi) (.int .i64 m); have FIN := Lib.hid (G5.out.fin ho4 G4.out.hi (.int .i64 rd) (.int .i64 fi) (.int .i64 m)); have r0 := G5.out.r 0; have r1 := G5.out.r 1; have r2 := G5.out.r 2; have r3 := G5.out.r 3; have t0 := G5.out.rt 0; have t1 := G5.out.rt 1; have t2 := G5.out.rt 2; have t3 := G5.out.rt 3; clear ho4 hn4)))
  all_goals
    obtain ⟨BF, FF, OF⟩ := FIN.out
    have f0 := FF 0
    have f1 := FF 1
    have f2 := FF 2
    have f3 := FF 3
    have OF := Lib.hid OF
    clear FF FIN
    go_wp2_with fail
    refine bodyPost_ret (v := .tuple #[.agg #[.int .i64 rd, .slice (some ⟨g5, 0, none⟩) l.length c5, .int .i64 fi, .int .i64 m], .bool q]) ?hr rfl ?_
    case hr => rw [results_cell_tmp rfl]; go_simp
    exact ⟨_, rfl, BF, OF.out, by simp⟩
end Go.Proofs.Ythdhjjbgegcncaa
