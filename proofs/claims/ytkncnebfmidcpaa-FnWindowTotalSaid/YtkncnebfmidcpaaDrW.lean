/- Drawn windows (l92Windows). -/
import Derived.Test.YtkncnebfmidcpaaWdRow
import Derived.Test.YtkncnebfmidcpaaRdr
import Derived.Test.YtkncnebfmidcpaaRtMath
import Derived.Test.YtkncnebfmidcpaaWSay
import Derived.OwnWalk
import Derived.BigRegion
import Derived.Deep.RegionHeld3
import Derived.Deep.RegionLaw
import Derived.Deep.Cut
import Derived.Deep.CutBlock
namespace Go.Proofs.Ytkncnebfmidcpaa
open Go.RowKit
set_option linter.unusedVariables false
set_option linter.unusedSimpArgs false

theorem grown_below {w w' : World} (h : Below w.heap.size w w') (row : Option Nat) : w.grownBy w' row := ⟨h.os, h.tape, h.output, h.size, fun k hk _ => h.block k hk⟩
theorem grown_set {w W : World} {row : Option Nat} {c : Nat} (h : w.grownBy W row) (hc : w.heap.size ≤ c) (i : Nat) (v : Value) : w.grownBy (W.setCell ⟨c, i, none⟩ v) row := by
  have k := (Below.refl c W).setCell (p := ⟨c, i, none⟩) (Nat.le_refl _) v
  exact ⟨k.os.trans h.os, k.tape.trans h.tape, k.output.trans h.output, Nat.le_trans h.size k.size, fun j hj hr => (k.block j (by omega)).trans (h.block j hj hr)⟩
theorem Rdr.set {w : World} {b k c : Nat} (h : Rdr w b k) (hc : b < c) (i : Nat) (v : Value) : Rdr (w.setCell ⟨c, i, none⟩ v) b k :=
  h.grown (Lib.grownBy_setCell _ _ _ _) (fun r e => by have := Option.some.inj e; omega)
theorem OwnW.picked {w w' : World} {B b : Nat} {v : Value} {l : List Wd} (h : OwnW w B v l) (hg : w.grownBy w' (some b)) (hb : b < B) : OwnW w' B v l :=
  World.ownsRow.kept h hg (by cases hq : v.ownBlock with | none => exact .inl rfl | some q => exact .inr fun e => by have := (World.ownsRow.lt h q hq).1; have := Option.some.inj e; omega)
theorem R4.kept {w W : World} {p : Nat} {row : Option Nat} {a b c d : Int} (h : R4 w p a b c d) (hg : w.grownBy W row) (hr : some p ≠ row) : R4 W p a b c d := by
  have e := hg.block p h.lt hr
  exact ⟨(World.cell?_of_block (w := w) (a := ⟨p, 0, none⟩) e).trans h.c0, (World.cell?_of_block (w := w) (a := ⟨p, 1, none⟩) e).trans h.c1, (World.cell?_of_block (w := w) (a := ⟨p, 2, none⟩) e).trans h.c2, (World.cell?_of_block (w := w) (a := ⟨p, 3, none⟩) e).trans h.c3, fun i => (World.frozen?_of_block (w := w) (a := ⟨p, i, none⟩) e).trans (h.fz i)⟩

/-- The reader and the row. -/
structure DW (w W : World) (b k : Nat) (s : Value) (l : List Wd) : Prop where
  gr : w.grownBy W (some b)
  rd : Rdr W b k
  own : OwnW W w.heap.size s l
  ne : s.ownBlock ≠ none
  hb : b < w.heap.size
theorem DW.below {w W W' : World} {b k : Nat} {s : Value} {l : List Wd} (h : DW w W b k s l) (hb : Below W.heap.size W W') : DW w W' b k s l :=
  ⟨h.gr.trans (grown_below hb _), h.rd.below hb, h.own.below hb, h.ne, h.hb⟩
theorem DW.pick {w W W' : World} {b k k' : Nat} {s : Value} {l : List Wd} (h : DW w W b k s l) (hg : W.grownBy W' (some b)) (hR : Rdr W' b k') : DW w W' b k' s l :=
  ⟨h.gr.trans hg, hR, h.own.picked hg h.hb, h.ne, h.hb⟩
theorem DW.le {w W : World} {b k k' : Nat} {s : Value} {l : List Wd} (h : DW w W b k s l) (hk : k ≤ k') : DW w W b k' s l := ⟨h.gr, h.rd.le hk, h.own, h.ne, h.hb⟩
theorem DW.start {w : World} {b k : Nat} (hR : Rdr w b k) : DW w (w.alloc (.cells #[] 28)) b k (.slice (some ⟨w.heap.size, 0, none⟩) 0 0) [] := by
  have U : Below w.heap.size w (w.alloc (.cells #[] 28)) := (Below.refl _ _).alloc (Nat.le_refl _) _
  exact ⟨grown_below U _, hR.below U, OwnW.new _ w (Nat.le_refl _), by simp [Value.ownBlock], hR.1⟩
/-- .. and the window's variable. -/
structure DX (w W : World) (b k xb : Nat) (s : Value) (l : List Wd) (x y z t : Int) : Prop where
  d : DW w W b k s l
  r : R4 W xb x y z t
  hx : w.heap.size ≤ xb ∧ s.ownBlock ≠ some xb
theorem DX.below {w W W' : World} {b k xb : Nat} {s : Value} {l : List Wd} {x y z t : Int} (h : DX w W b k xb s l x y z t) (hb : Below W.heap.size W W') : DX w W' b k xb s l x y z t := ⟨h.d.below hb, h.r.below hb h.r.lt, h.hx⟩
theorem DX.pick {w W W' : World} {b k k' xb : Nat} {s : Value} {l : List Wd} {x y z t : Int} (h : DX w W b k xb s l x y z t) (hg : W.grownBy W' (some b)) (hR : Rdr W' b k') : DX w W' b k' xb s l x y z t :=
  ⟨h.d.pick hg hR, h.r.kept hg (fun e => by have := Option.some.inj e; have := h.hx.1; have := h.d.hb; omega), h.hx⟩
theorem DX.set1 {w W : World} {b k xb : Nat} {s : Value} {l : List Wd} {x y z t : Int} (h : DX w W b k xb s l x y z t) (v : Int) : DX w (W.setCell ⟨xb, 1, none⟩ (.int .i64 v)) b k xb s l x v z t := by
  have hb := h.d.hb
  have hx := h.hx.1
  exact ⟨⟨grown_set h.d.gr hx _ _, h.d.rd.set (by omega) _ _, h.d.own.far h.hx.2, h.d.ne, hb⟩, h.r.set1 v, h.hx⟩
theorem DX.new {w W : World} {b k : Nat} {s : Value} {l : List Wd} (h : DW w W b k s l) (x y z t : Int) : DX w (W.alloc (.cells #[.int .i64 x, .int .i64 y, .int .i64 z, .int .i64 t] 28)) b k W.heap.size s l x y z t := by
  have U : Below W.heap.size W (W.alloc (.cells #[.int .i64 x, .int .i64 y, .int .i64 z, .int .i64 t] 28)) := (Below.refl _ _).alloc (Nat.le_refl _) _
  exact ⟨h.below U, R4.new W x y z t _, h.gr.size, fun e => by have := (World.ownsRow.lt h.own _ e).2; omega⟩
/-- The row grows. -/
theorem DW.grow {w W W' : World} {b k : Nat} {s s' : Value} {l l' : List Wd} (h : DW w W b k s l) (ho : OwnW W' w.heap.size s' l') (hg : W.grownBy W' s.ownBlock) (hs : s'.ownBlock ≠ none) : DW w W' b k s' l' := by
  have hlt : ∀ r, s.ownBlock = some r → w.heap.size ≤ r := fun r e => (World.ownsRow.lt h.own r e).1
  refine ⟨?_, h.rd.grown hg (fun r e => by have := hlt r e; have := h.hb; omega), ho, hs, h.hb⟩
  have g2 := h.gr
  refine ⟨hg.os.trans g2.os, hg.tape.trans g2.tape, hg.output.trans g2.output, Nat.le_trans g2.size hg.size, fun j hj hr => ?_⟩
  rw [hg.block j (Nat.lt_of_lt_of_le hj g2.size) (fun e => by have := hlt j e.symm; omega)]
  exact g2.block j hj hr
theorem wset1 : ∀ (l : List Wd) (i j : Nat) (x : Int), i < l.length → j < 4 → ∃ l' : List Wd, l'.length = l.length ∧ (wcells l).set (i * 4 + j) (.int .i64 x) = wcells l'
  | [], i, j, x, h, _ => by simp at h
  | p :: t, 0, j, x, _, hj => by
    obtain ⟨p1, p2, p3, p4⟩ := p
    have e : wcells ((p1, p2, p3, p4) :: t) = [.int .i64 p1, .int .i64 p2, .int .i64 p3, .int .i64 p4] ++ wcells t := by simp [wcells, wcell]
    rcases (by omega : j = 0 ∨ j = 1 ∨ j = 2 ∨ j = 3) with rfl | rfl | rfl | rfl
    · exact ⟨(x, p2, p3, p4) :: t, rfl, by rw [e]; simp [wcells, wcell]⟩
    · exact ⟨(p1, x, p3, p4) :: t, rfl, by rw [e]; simp [wcells, wcell]⟩
    · exact ⟨(p1, p2, x, p4) :: t, rfl, by rw [e]; simp [wcells, wcell]⟩
    · exact ⟨(p1, p2, p3, x) :: t, rfl, by rw [e]; simp [wcells, wcell]⟩
  | p :: t, i + 1, j, x, h, hj => by
    obtain ⟨l', h1, h2⟩ := wset1 t i j x (by simpa using h) hj
    refine ⟨p :: l', by simp [h1], ?_⟩
    have e : wcells (p :: t) = wcell p ++ wcells t := by simp [wcells]
    have e' : wcells (p :: l') = wcell p ++ wcells l' := by simp [wcells]
    rw [e, e', ← h2, List.set_append_right _ _ (by simp [wcell]; omega)]
    congr 2
    simp [wcell]; omega
/-- One cell of the row is written. -/
theorem DW.setW {w W : World} {b k q i c : Nat} {l : List Wd} (h : DW w W b k (.slice (some ⟨q, 0, none⟩) l.length c) l) (hi : i < l.length) (j : Nat) (hj : j < 4) (x : Int) :
    ∃ l' : List Wd, l'.length = l.length ∧ DW w (W.setCell ⟨q, i * 4 + j, none⟩ (.int .i64 x)) b k (.slice (some ⟨q, 0, none⟩) l.length c) l' := by
  obtain ⟨l', h1, h2⟩ := wset1 l i j x hi hj
  have hq := World.ownsRow.lt h.own q rfl
  have hs := World.ownsRow.stored h.own (i * 4 + j) (.int .i64 x)
  have hb := h.hb
  exact ⟨l', h1, grown_set h.gr hq.1 _ _, h.rd.set (by omega) _ _, by unfold OwnW; rw [h1, ← h2]; exact hs.1, h.ne, hb⟩
theorem DW.rowAt {w W : World} {b k q i c : Nat} {l : List Wd} (h : DW w W b k (.slice (some ⟨q, 0, none⟩) l.length c) l) (hi : i < l.length) (j : Nat) (hj : j < 4) :
    (∃ y : Int, W.cell? ⟨q, i * 4 + j, none⟩ = some (.int .i64 y)) ∧ W.frozen? ⟨q, i * 4 + j, none⟩ = false := by
  refine ⟨?_, World.ownsRow.frozenAt h.own _⟩
  have e := (World.ownsRow.cellAt h.own (i * 4 + j) (by omega)).trans (wcells_at l i j hi hj)
  rcases (by omega : j = 0 ∨ j = 1 ∨ j = 2 ∨ j = 3) with rfl | rfl | rfl | rfl <;> exact ⟨_, e⟩
theorem DW.open {w W : World} {b k : Nat} {a : Option Addr} {c : Nat} {l : List Wd} (h : DW w W b k (.slice a l.length c) l) : ∃ q, a = some ⟨q, 0, none⟩ := by
  obtain ⟨_, ⟨h1, _⟩ | ⟨g, c', cur, h1, _⟩⟩ := h.own
  · have := h.ne; rw [h1] at this; exact absurd rfl this
  · simp only [Value.slice.injEq] at h1; exact ⟨g, h1.1⟩

/-- What is drawn. -/
def DrewW (w : World) (b k : Nat) (e : Ending) (w' : World) : Prop :=
  ∃ (s : Value) (l : List Wd), e = .returned s ∧ Wds w' s l ∧ l.length ≤ 8 ∧ s.ownBlock ≠ none ∧ (∀ g, s.ownBlock = some g → w.heap.size ≤ g) ∧ w.grownBy w' (some b) ∧ Rdr w' b (k + 60)
theorem DW.fin {w W : World} {b k : Nat} {s : Value} {l : List Wd} (h : DW w W b k s l) (hl : l.length ≤ 8) {k' : Nat} (hk : k ≤ k') : Wds W s l ∧ l.length ≤ 8 ∧ s.ownBlock ≠ none ∧ (∀ g, s.ownBlock = some g → w.heap.size ≤ g) ∧ w.grownBy W (some b) ∧ Rdr W b k' :=
  ⟨h.own.pks, hl, h.ne, fun g e => (World.ownsRow.lt h.own g e).1, h.gr, h.rd.le hk⟩
theorem at_world {P : Program} {f : FuncId} {args : Array Value} {Q : Ending → World → Prop} (W : World) (h : Calls P f args W Q) : Calls P f args W Q := h

set_option maxRecDepth 100000 in
set_option maxHeartbeats 8000000 in
theorem drw_any (b k : Nat) (w : World) (R : Rdr w b k) (hk : k ≤ 890000) :
    Calls Try.prog 29 #[.pointer (some ⟨b, 0, none⟩)] w (DrewW w b k) := by
  have D0 := Lib.hid (DW.start R)
  have hbl : b < w.heap.size := R.1
  clear R
  go_enter Try.func29, Try.ntmps29
  go_wp2_with fail
  go_loopw [3, 4] (fun sv iv wr => ∃ (j : Nat) (l : List Wd) (a : Option Addr) (c : Nat), j ≤ 4 ∧ iv = .int .i64 (j : Int) ∧ l.length ≤ j ∧ j ≤ l.length ∧ sv = .slice a l.length c ∧ Hid (DW w wr b (k + 10 * j) (.slice a l.length c) l)) (fun _ iv _ => 10 - (intOf iv).toNat)
  case atStart => exact ⟨0, [], _, _, by omega, rfl, Nat.le_refl _, Nat.le_refl _, rfl, D0⟩
  case round =>
    obtain ⟨j, l, a, c, hj, rfl, hl1, hl2, rfl, HD⟩ := hrel
    go_wp2_with fail
    refine (pick_rdr b _ _ _ HD.out.rd (by omega) (by omega) (by omega)).mono ?_
    rintro e w2 ⟨u, hu, rfl, hg2, R2⟩
    have D1 := Lib.hid (HD.out.pick hg2 R2)
    clear hg2 R2 HD D0
    by_cases hlt : j < 1 + u
    · have hlt' : (j : Int) < 1 + (u : Int) := by omega
      go_wp2_with fail
      refine (pick_rdr b _ _ _ D1.out.rd (by omega) (by omega) (by omega)).mono ?_
      rintro e w3 ⟨u1, hu1, rfl, hg3, R3⟩
      have D2 := Lib.hid (D1.out.pick hg3 R3)
      clear hg3 R3 D1
      go_wp2_with fail
      refine (pick_rdr b _ _ _ D2.out.rd (by omega) (by omega) (by omega)).mono ?_
      rintro e w4 ⟨u2, hu2, rfl, hg4, R4'⟩
      have D3 := Lib.hid (D2.out.pick hg4 R4')
      clear hg4 R4' D2
      go_wp2_with fail
      refine (pick_rdr b _ _ _ D3.out.rd (by omega) (by omega) (by omega)).mono ?_
      rintro e w5 ⟨u3, hu3, rfl, hg5, R5⟩
      have D4 := Lib.hid (D3.out.pick hg5 R5)
      clear hg5 R5 D3
      go_wp2_with fail
      refine (pick_rdr b _ _ _ D4.out.rd (by omega) (by omega) (by omega)).mono ?_
      rintro e w6 ⟨u4, hu4, rfl, hg6, R6⟩
      have D5 := Lib.hid (D4.out.pick hg6 R6)
      clear hg6 R6 D4
      go_wp2_with fail
      refine (pick_rdr b _ _ _ D5.out.rd (by omega) (by omega) (by omega)).mono ?_
      rintro e w7 ⟨u5, hu5, rfl, hg7, R7⟩
      have D6 := Lib.hid (D5.out.pick hg7 R7)
      clear hg7 R7 D5
      go_upto_region 6 with fail
      have X1 := Lib.hid (DX.new D6.out (1 + (u1 : Int)) (1 + (u2 : Int)) (100 * (u3 : Int) + (u4 : Int)) (1 + (u5 : Int)))
      generalize w7.alloc (.cells #[.int .i64 (1 + (u1 : Int)), .int .i64 (1 + (u2 : Int)), .int .i64 (100 * (u3 : Int) + (u4 : Int)), .int .i64 (1 + (u5 : Int))] 28) = W8 at X1 ⊢
      generalize w7.heap.size = xb at X1 ⊢
      generalize (1 + (u1 : Int)) = x at X1 ⊢
      generalize (1 + (u2 : Int)) = y at X1 ⊢
      generalize (100 * (u3 : Int) + (u4 : Int)) = z at X1 ⊢
      generalize (1 + (u5 : Int)) = t at X1 ⊢
      clear D6 hu1 hu2 hu3 hu4 hu5
      go_wp2_with fail
      refine (pick_rdr b _ _ _ X1.out.d.rd (by omega) (by omega) (by omega)).mono ?_
      rintro e w9 ⟨u6, hu6, rfl, hg, hR⟩
      have X2 := Lib.hid (X1.out.pick hg hR)
      clear hg hR X1
      by_cases hz : u6 = 0
      · subst hz
        go_wp2_with fail
        have X3 := Lib.hid (X2.out.below (Below.refl _ _).drew)
        clear X2
        have r0 := X3.out.r.c0
        have hh1 : (1 : Int) ≤ 3 := by omega
        have hh2 : (3 : Int) ≤ 1000000 := by omega
        have hk1 : k + 10 * j + 1 + 1 + 1 + 1 + 1 + 1 + 1 ≤ 1000000 := by omega
        go_region_law ((first
          | (go_simp; (with_reducible refine (pick_rdr b _ 3 _ X3.out.d.rd hh1 hh2 hk1).mono ?_); rintro e wA ⟨u7, hu7, rfl, hg, hR⟩; have X4 := Lib.hid (X3.out.pick hg hR); have q0 := X4.out.r.c0; have q1 := X4.out.r.c1; have q2 := X4.out.r.fz 1; clear hg hR)))
        all_goals
          generalize (if IntKind.i64.wrap (x - (u7 : Int)) < 1 then 1 else IntKind.i64.wrap (x - (u7 : Int))) = m
          have X5 := Lib.hid (X4.out.set1 m)
          generalize wA.setCell ⟨xb, 1, none⟩ (.int .i64 m) = W5 at X5 ⊢
          clear X3 X4 q0 q1 q2 r0
          obtain ⟨r0, r1, r2, r3, _⟩ := X5.out.r
          have O := Lib.hid (X5.out.d.own.below (show Below W5.heap.size W5 (W5.alloc (.cells #[.int .i64 x, .int .i64 m, .int .i64 z, .int .i64 t] 28)) from (Below.refl _ _).alloc (Nat.le_refl _) _))
          have S := Lib.hid (SrcW.new W5 (x, m, z, t) 28)
          have HS := Lib.hid X5.out.d.gr.size
          go_wp2_with (at_builtin; refine wpList_app_wd _ rfl _ _ rfl w.heap.size _ l [(x, m, z, t)] rfl O.out _ rfl S.out (by simp; omega) (by have := HS.out; simp; omega) ?_)
          intro aa nn cc w9 hO hnn hg hgg hnil
          have hne : (Value.slice aa nn cc).ownBlock ≠ none := fun e => by rcases hgg with h | h <;> (rw [h] at e; first | exact X5.out.d.ne e | cases e)
          have D9 := Lib.hid ((DW.grow (X5.out.d.below (show Below W5.heap.size W5 (W5.alloc (.cells #[.int .i64 x, .int .i64 m, .int .i64 z, .int .i64 t] 28)) from (Below.refl _ _).alloc (Nat.le_refl _) _)) hO hg hne).le (k' := k + 10 * (j + 1)) (by omega))
          have hnn' : nn = (l ++ [(x, m, z, t)]).length := by rw [List.length_append]; exact hnn.out
          have hl9 : (l ++ [(x, m, z, t)]).length = l.length + 1 := by simp
          generalize l ++ [(x, m, z, t)] = l9 at D9 hnn' hl9
          have L1 := Lib.hid (show l9.length ≤ j + 1 by omega)
          have L2 := Lib.hid (show j + 1 ≤ l9.length by omega)
          have L3 := Lib.hid hnn'
          have L4 := Lib.hid (show j + 1 ≤ 4 by omega)
          clear hO hnn hg hgg hnil hne hnn' hl9 O S HS r0 r1 r2 r3 X5
          go_wp2_with fail
          go_roundw
          case rel => exact ⟨j + 1, l9, aa, cc, L4.out, by go_num, L1.out, L2.out, by rw [← L3.out], by rw [← L3.out]; exact D9⟩
          case measure => simp [intOf]; omega
      · have hz' : ¬ ((u6 : Int) = 0) := by omega
        have hz2 : ((u6 : Int) == 0) = false := by rw [beq_eq_false_iff_ne]; exact hz'
        obtain ⟨r0, r1, r2, r3, _⟩ := X2.out.r
        have O := Lib.hid (X2.out.d.own.below (show Below w9.heap.size w9 (w9.alloc (.cells #[.int .i64 x, .int .i64 y, .int .i64 z, .int .i64 t] 28)) from (Below.refl _ _).alloc (Nat.le_refl _) _))
        have S := Lib.hid (SrcW.new w9 (x, y, z, t) 28)
        have HS := Lib.hid X2.out.d.gr.size
        go_wp2_with (at_builtin; refine wpList_app_wd _ rfl _ _ rfl w.heap.size _ l [(x, y, z, t)] rfl O.out _ rfl S.out (by simp; omega) (by have := HS.out; simp; omega) ?_)
        intro aa nn cc wB hO hnn hg hgg hnil
        have hne : (Value.slice aa nn cc).ownBlock ≠ none := fun e => by rcases hgg with h | h <;> (rw [h] at e; first | exact X2.out.d.ne e | cases e)
        have D9 := Lib.hid ((DW.grow (X2.out.d.below (show Below w9.heap.size w9 (w9.alloc (.cells #[.int .i64 x, .int .i64 y, .int .i64 z, .int .i64 t] 28)) from (Below.refl _ _).alloc (Nat.le_refl _) _)) hO hg hne).le (k' := k + 10 * (j + 1)) (by omega))
        have hnn' : nn = (l ++ [(x, y, z, t)]).length := by rw [List.length_append]; exact hnn.out
        have hl9 : (l ++ [(x, y, z, t)]).length = l.length + 1 := by simp
        generalize l ++ [(x, y, z, t)] = l9 at D9 hnn' hl9
        have L1 := Lib.hid (show l9.length ≤ j + 1 by omega)
        have L2 := Lib.hid (show j + 1 ≤ l9.length by omega)
        have L3 := Lib.hid hnn'
        have L4 := Lib.hid (show j + 1 ≤ 4 by omega)
        clear hO hnn hg hgg hnil hne hnn' hl9 O S HS r0 r1 r2 r3 X2
        go_wp2_with fail
        go_roundw
        case rel => exact ⟨j + 1, l9, aa, cc, L4.out, by go_num, L1.out, L2.out, by rw [← L3.out], by rw [← L3.out]; exact D9⟩
        case measure => simp [intOf]; omega
    · have hlt' : ¬ (j : Int) < 1 + (u : Int) := by omega
      have hlp : (1 : Int) ≤ (l.length : Int) := by omega
      obtain ⟨q, rfl⟩ := D1.out.open
      have D2 := Lib.hid (D1.out.le (k' := k + 50) (by omega))
      clear D1
      go_wp2_with fail
      refine (pick_rdr b _ _ _ D2.out.rd hlp (by omega) (by omega)).mono ?_
      rintro e w3 ⟨v, hv, rfl, hg, hR⟩
      have D3 := Lib.hid (D2.out.pick hg hR)
      clear hg hR D2
      go_wp2_with fail
      refine (pick_rdr b _ _ _ D3.out.rd (by omega) (by omega) (by omega)).mono ?_
      rintro e w4 ⟨s, hs, rfl, hg, hR⟩
      have D4 := Lib.hid (D3.out.pick hg hR)
      clear hg hR D3
      have hvl : v < l.length := by omega
      have hl8 : l.length ≤ 4 := by omega
      rcases (by omega : s = 0 ∨ s = 1 ∨ s = 2 ∨ s = 3 ∨ s = 4 ∨ s = 5 ∨ 6 ≤ s) with rfl | rfl | rfl | rfl | rfl | rfl | hs6
      · go_wp2_with fail
        refine (pick_rdr b _ _ _ D4.out.rd (by omega) (by omega) (by omega)).mono ?_
        rintro e w5 ⟨f, hf, rfl, hg, hR⟩
        have D5 := Lib.hid (D4.out.pick hg hR)
        clear hg hR D4
        have hwf : wrap64 ((f : Int) * 65) = (f : Int) * 65 := by unfold wrap64; omega
        obtain ⟨⟨y0, c0⟩, f0⟩ := D5.out.rowAt hvl 0 (by omega)
        obtain ⟨l', hl', D6⟩ := D5.out.setW hvl 0 (by omega) ((f : Int) * 65)
        simp only [Nat.add_zero] at c0 f0 D6
        have L := Lib.hid hl'
        have E := Lib.hid (D6.fin (by omega) (k' := k + 60) (by omega))
        clear hl' D6 D5
        go_wp2_with fail
        go_ret
        exact ⟨_, l', rfl, E.out⟩
      · go_wp2_with fail
        refine (pick_rdr b _ _ _ D4.out.rd (by omega) (by omega) (by omega)).mono ?_
        rintro e w5 ⟨f, hf, rfl, hg, hR⟩
        have D5 := Lib.hid (D4.out.pick hg hR)
        clear hg hR D4
        have hwf : wrap64 ((f : Int) * 65) = (f : Int) * 65 := by unfold wrap64; omega
        obtain ⟨⟨y0, c0⟩, f0⟩ := D5.out.rowAt hvl 1 (by omega)
        obtain ⟨l', hl', D6⟩ := D5.out.setW hvl 1 (by omega) ((f : Int) * 65)
        have L := Lib.hid hl'
        have E := Lib.hid (D6.fin (by omega) (k' := k + 60) (by omega))
        clear hl' D6 D5
        go_wp2_with fail
        go_ret
        exact ⟨_, l', rfl, E.out⟩
      · have U := Lib.hid (show Below w4.heap.size w4 (w4.alloc (.cells #[.int .i64 (-1), .int .i64 999, .int .i64 1000] 3)) from (Below.refl _ _).alloc (Nat.le_refl _) _)
        have D5 := Lib.hid (D4.out.below U.out)
        have K5 : Hid (∀ n, n < 3 → ∃ y : Int, (w4.alloc (.cells #[.int .i64 (-1), .int .i64 999, .int .i64 1000] 3)).cell? ⟨w4.heap.size, n, none⟩ = some (.int .i64 y)) := Lib.hid fun n hn => by
          rcases (by omega : n = 0 ∨ n = 1 ∨ n = 2) with rfl | rfl | rfl <;> exact ⟨_, by rw [World.cell?_alloc_mark]; rfl⟩
        have hgb := Lib.hid D4.out.gr.size
        clear D4
        go_wp2_with fail
        generalize w4.alloc (.cells #[.int .i64 (-1), .int .i64 999, .int .i64 1000] 3) = W5 at D5 K5 ⊢
        clear U
        generalize w4.heap.size = ib at K5 hgb ⊢
        refine (pick_rdr b _ _ _ D5.out.rd (by omega) (by omega) (by omega)).mono ?_
        rintro e w6 ⟨f, hf, rfl, hg, hR⟩
        have hf3 : (f : Int) < 3 := hf
        obtain ⟨yf, hyf⟩ := K5.out f (by omega)
        have hyf6 := hg.cell hyf (fun e => by have e2 : ib = b := Option.some.inj e; have := hgb.out; have := D5.out.hb; omega)
        have D6 := Lib.hid (D5.out.pick hg hR)
        clear hg hR D5 hyf K5
        obtain ⟨⟨y0, c0⟩, f0⟩ := D6.out.rowAt hvl 2 (by omega)
        obtain ⟨l', hl', D7⟩ := D6.out.setW hvl 2 (by omega) yf
        have L := Lib.hid hl'
        have E := Lib.hid (D7.fin (by omega) (k' := k + 60) (by omega))
        clear hl' D7 D6
        go_wp2_with fail
        go_ret
        exact ⟨_, l', rfl, E.out⟩
      · go_wp2_with fail
        refine (pick_rdr b _ _ _ D4.out.rd (by omega) (by omega) (by omega)).mono ?_
        rintro e w5 ⟨f, hf, rfl, hg, hR⟩
        have D5 := Lib.hid (D4.out.pick hg hR)
        clear hg hR D4
        have hwf : wrap64 ((f : Int) * 100) = (f : Int) * 100 := by unfold wrap64; omega
        obtain ⟨⟨y0, c0⟩, f0⟩ := D5.out.rowAt hvl 3 (by omega)
        obtain ⟨l', hl', D6⟩ := D5.out.setW hvl 3 (by omega) ((f : Int) * 100)
        have L := Lib.hid hl'
        have E := Lib.hid (D6.fin (by omega) (k' := k + 60) (by omega))
        clear hl' D6 D5
        go_wp2_with fail
        go_ret
        exact ⟨_, l', rfl, E.out⟩
      · have O := Lib.hid D4.out.own
        have S := Lib.hid (SrcW.of D4.out.own.pks D4.out.own.nilok)
        have HS := Lib.hid D4.out.gr.size
        go_wp2_with (at_builtin; refine wpList_app_wd _ rfl _ _ rfl w.heap.size _ l l rfl O.out _ rfl S.out (by omega) HS.out ?_)
        intro aa nn cc w9 hO hnn hg hgg hnil
        have hne : (Value.slice aa nn cc).ownBlock ≠ none := fun e => by rcases hgg with h | h <;> (rw [h] at e; cases e)
        have D9 := DW.grow D4.out hO hg hne
        have E := Lib.hid (D9.fin (by simp; omega) (k' := k + 60) (by omega))
        clear hO hnn hg hgg hnil hne D9 O S HS D4
        go_wp2_with fail
        go_ret
        exact ⟨_, _, rfl, E.out⟩
      · have hq := (World.ownsRow.lt D4.out.own q rfl).1
        have E : Hid (Wds w4 (.slice (some ⟨q, 0, none⟩) 0 c) [] ∧ ([] : List Wd).length ≤ 8 ∧ (Value.slice (some ⟨q, 0, none⟩) 0 c).ownBlock ≠ none ∧ (∀ g, (Value.slice (some ⟨q, 0, none⟩) 0 c).ownBlock = some g → w.heap.size ≤ g) ∧ w.grownBy w4 (some b) ∧ Rdr w4 b (k + 60)) := Lib.hid
          ⟨⟨_, c, rfl, by simp, fun h => absurd rfl h⟩, by simp, by simp [Value.ownBlock], fun g e => by simp [Value.ownBlock] at e; omega, D4.out.gr, D4.out.rd.le (by omega)⟩
        clear hq D4
        go_wp2_with fail
        go_ret
        exact ⟨_, [], rfl, E.out⟩
      · have hs0 : ((s : Int) == 0) = false := by rw [beq_eq_false_iff_ne]; omega
        have hs1 : ((s : Int) == 1) = false := by rw [beq_eq_false_iff_ne]; omega
        have hs2 : ((s : Int) == 2) = false := by rw [beq_eq_false_iff_ne]; omega
        have hs3 : ((s : Int) == 3) = false := by rw [beq_eq_false_iff_ne]; omega
        have hs4 : ((s : Int) == 4) = false := by rw [beq_eq_false_iff_ne]; omega
        have hs5 : ((s : Int) == 5) = false := by rw [beq_eq_false_iff_ne]; omega
        have E := Lib.hid (D4.out.fin (by omega) (k' := k + 60) (by omega))
        clear D4
        go_wp2_with fail
        go_ret
        exact ⟨_, l, rfl, E.out⟩
end Go.Proofs.Ytkncnebfmidcpaa
