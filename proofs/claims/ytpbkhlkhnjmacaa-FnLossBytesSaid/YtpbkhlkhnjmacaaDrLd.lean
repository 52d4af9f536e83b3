/- Where the drawing of a state of loss detection stands. -/
import Derived.Test.YtpbkhlkhnjmacaaPk
import Derived.Test.YtpbkhlkhnjmacaaRdr
import Derived.Test.YtpbkhlkhnjmacaaRg
import Derived.Test.YtpbkhlkhnjmacaaLaMath
import Derived.Laws.ResultCell
import Derived.Laws.OwnMore
namespace Go.Proofs.Ytpbkhlkhnjmacaa
open Go.RowKit
set_option linter.unusedVariables false
set_option linter.unusedSimpArgs false

theorem grown_below {w w' : World} (h : Below w.heap.size w w') (row : Option Nat) : w.grownBy w' row := ⟨h.os, h.tape, h.output, h.size, fun k hk _ => h.block k hk⟩
theorem grown_set {w W : World} {row : Option Nat} {c : Nat} (h : w.grownBy W row) (hc : w.heap.size ≤ c) (i : Nat) (v : Value) : w.grownBy (W.setCell ⟨c, i, none⟩ v) row := by
  have k := (Below.refl c W).setCell (p := ⟨c, i, none⟩) (Nat.le_refl _) v
  exact ⟨k.os.trans h.os, k.tape.trans h.tape, k.output.trans h.output, Nat.le_trans h.size k.size, fun j hj hr => (k.block j (by omega)).trans (h.block j hj hr)⟩
theorem OwnPk.kept {w w' : World} {B : Nat} {v : Value} {l : List Pk} {row : Option Nat} (h : OwnPk w B v l) (hg : w.grownBy w' row) (hr : v.ownBlock = none ∨ v.ownBlock ≠ row) : OwnPk w' B v l := World.ownsRow.kept h hg hr
theorem OwnPk.picked {w w' : World} {B b : Nat} {v : Value} {l : List Pk} (h : OwnPk w B v l) (hg : w.grownBy w' (some b)) (hb : b < B) : OwnPk w' B v l :=
  World.ownsRow.kept h hg (by cases hq : v.ownBlock with | none => exact .inl rfl | some q => exact .inr fun e => by have := (World.ownsRow.lt h q hq).1; have := Option.some.inj e; omega)

/-- The reader's block b, the result's, the variable's, its row. -/
structure LD (w W : World) (b k rb ob : Nat) (n g : Int) (s : Value) (l : List Pk) : Prop where
  gr : w.grownBy W (some b)
  rd : Rdr W b k
  zer : C3 W rb (.int .i64 0) (.slice none 0 0) (.int .i64 0)
  zf : Soft W rb
  out : C3 W ob (.int .i64 n) s (.int .i64 g)
  of : Soft W ob
  own : OwnPk W w.heap.size s l
  ne : s.ownBlock ≠ none ∧ s.ownBlock ≠ some rb ∧ s.ownBlock ≠ some ob
  ord : b < w.heap.size ∧ w.heap.size ≤ rb ∧ rb < ob
theorem LD.below {w W W' : World} {b k rb ob : Nat} {n g : Int} {s : Value} {l : List Pk} (h : LD w W b k rb ob n g s l) (hb : Below W.heap.size W W') : LD w W' b k rb ob n g s l :=
  ⟨h.gr.trans (grown_below hb _), h.rd.below hb, h.zer.below hb, h.zf.below hb h.zer.lt, h.out.below hb, h.of.below hb h.out.lt, h.own.below hb, h.ne, h.ord⟩
theorem LD.drew {w W : World} {b k rb ob : Nat} {n g : Int} {s : Value} {l : List Pk} (h : LD w W b k rb ob n g s l) : LD w W.drew b k rb ob n g s l := h.below (Below.refl _ _).drew
theorem LD.pick {w W W' : World} {b k k' rb ob : Nat} {n g : Int} {s : Value} {l : List Pk} (h : LD w W b k rb ob n g s l) (hg : W.grownBy W' (some b)) (hR : Rdr W' b k') : LD w W' b k' rb ob n g s l := by
  obtain ⟨o1, o2, o3⟩ := h.ord
  have n1 : some rb ≠ some b := fun e => by have := Option.some.inj e; omega
  have n2 : some ob ≠ some b := fun e => by have := Option.some.inj e; omega
  exact ⟨h.gr.trans hg, hR, h.zer.kept hg n1, h.zf.kept hg h.zer.lt n1, h.out.kept hg n2, h.of.kept hg h.out.lt n2, h.own.picked hg o1, h.ne, h.ord⟩
theorem Rdr.set {w : World} {b k c : Nat} (h : Rdr w b k) (hc : b < c) (i : Nat) (v : Value) : Rdr (w.setCell ⟨c, i, none⟩ v) b k :=
  h.grown (Lib.grownBy_setCell _ _ _ _) (fun r e => by have := Option.some.inj e; omega)
/-- The variable is written. -/
theorem LD.store {w W : World} {b k rb ob : Nat} {n n' g g' : Int} {s s' : Value} {l l' : List Pk} (h : LD w W b k rb ob n g s l) (ho : OwnPk W w.heap.size s' l') (hn : s'.ownBlock ≠ none ∧ s'.ownBlock ≠ some rb ∧ s'.ownBlock ≠ some ob) :
    LD w (((W.setCell ⟨ob, 0, none⟩ (.int .i64 n')).setCell ⟨ob, 1, none⟩ s').setCell ⟨ob, 2, none⟩ (.int .i64 g')) b k rb ob n' g' s' l' := by
  obtain ⟨o1, o2, o3⟩ := h.ord
  exact ⟨grown_set (grown_set (grown_set h.gr (by omega) _ _) (by omega) _ _) (by omega) _ _, ((h.rd.set (by omega) _ _).set (by omega) _ _).set (by omega) _ _, ((h.zer.far (by omega)).far (by omega)).far (by omega), ((h.zf.set _ _).set _ _).set _ _, ((h.out.set0 _).set1 s').set2 _, ((h.of.set _ _).set _ _).set _ _, ((ho.far hn.2.2).far hn.2.2).far hn.2.2, hn, h.ord⟩
theorem LD.store0 {w W : World} {b k rb ob : Nat} {n n' g : Int} {s : Value} {l : List Pk} (h : LD w W b k rb ob n g s l) : LD w (W.setCell ⟨ob, 0, none⟩ (.int .i64 n')) b k rb ob n' g s l := by
  obtain ⟨o1, o2, o3⟩ := h.ord
  exact ⟨grown_set h.gr (by omega) _ _, h.rd.set (by omega) _ _, h.zer.far (by omega), h.zf.set _ _, h.out.set0 _, h.of.set _ _, h.own.far h.ne.2.2, h.ne, h.ord⟩
theorem LD.store2 {w W : World} {b k rb ob : Nat} {n g g' : Int} {s : Value} {l : List Pk} (h : LD w W b k rb ob n g s l) : LD w (W.setCell ⟨ob, 2, none⟩ (.int .i64 g')) b k rb ob n g' s l := by
  obtain ⟨o1, o2, o3⟩ := h.ord
  exact ⟨grown_set h.gr (by omega) _ _, h.rd.set (by omega) _ _, h.zer.far (by omega), h.zf.set _ _, h.out.set2 _, h.of.set _ _, h.own.far h.ne.2.2, h.ne, h.ord⟩
theorem LD.le {w W : World} {b k k' rb ob : Nat} {n g : Int} {s : Value} {l : List Pk} (h : LD w W b k rb ob n g s l) (hk : k ≤ k') : LD w W b k' rb ob n g s l :=
  ⟨h.gr, h.rd.le hk, h.zer, h.zf, h.out, h.of, h.own, h.ne, h.ord⟩
/-- The walk's end: the variable is laid into the result. -/
theorem LD.fin {w W : World} {b k rb ob : Nat} {n g : Int} {s : Value} {l : List Pk} (h : LD w W b k rb ob n g s l) :
    C3 (((W.setCell ⟨rb, 0, none⟩ (.int .i64 n)).setCell ⟨rb, 1, none⟩ s).setCell ⟨rb, 2, none⟩ (.int .i64 g)) rb (.int .i64 n) s (.int .i64 g) ∧ w.grownBy (((W.setCell ⟨rb, 0, none⟩ (.int .i64 n)).setCell ⟨rb, 1, none⟩ s).setCell ⟨rb, 2, none⟩ (.int .i64 g)) (some b) ∧ Rdr (((W.setCell ⟨rb, 0, none⟩ (.int .i64 n)).setCell ⟨rb, 1, none⟩ s).setCell ⟨rb, 2, none⟩ (.int .i64 g)) b k ∧ OwnPk (((W.setCell ⟨rb, 0, none⟩ (.int .i64 n)).setCell ⟨rb, 1, none⟩ s).setCell ⟨rb, 2, none⟩ (.int .i64 g)) w.heap.size s l := by
  obtain ⟨o1, o2, o3⟩ := h.ord
  exact ⟨((h.zer.set0 _).set1 s).set2 _, grown_set (grown_set (grown_set h.gr (by omega) _ _) (by omega) _ _) (by omega) _ _, ((h.rd.set (by omega) _ _).set (by omega) _ _).set (by omega) _ _, ((h.own.far h.ne.2.1).far h.ne.2.1).far h.ne.2.1⟩
theorem LD.far {w W : World} {b k rb ob c : Nat} {n g : Int} {s : Value} {l : List Pk} (h : LD w W b k rb ob n g s l) (hc : w.heap.size ≤ c) (h1 : c ≠ rb) (h2 : c ≠ ob) (h3 : s.ownBlock ≠ some c) (i : Nat) (v : Value) : LD w (W.setCell ⟨c, i, none⟩ v) b k rb ob n g s l := by
  obtain ⟨o1, o2, o3⟩ := h.ord
  exact ⟨grown_set h.gr hc _ _, h.rd.set (by omega) _ _, h.zer.far h1, h.zf.set _ _, h.out.far h2, h.of.set _ _, h.own.far h3, h.ne, h.ord⟩
/-- A state in a variable of its own at xb. -/
structure LX (w W : World) (rb ob xb : Nat) (n g : Int) (v : Value) (m : List Pk) : Prop where
  x : C3 W xb (.int .i64 n) v (.int .i64 g)
  own : OwnPk W w.heap.size v m
  ne : v.ownBlock ≠ none ∧ v.ownBlock ≠ some rb ∧ v.ownBlock ≠ some ob
theorem LX.late {w W W9 : World} {b k rb ob : Nat} {n n1 g g1 : Int} {s v : Value} {l m : List Pk} (h : LD w W9 b k rb ob n g s l) (hw : w.heap.size ≤ W.heap.size) (hW : rb < W.heap.size ∧ ob < W.heap.size) (ho : OwnPk W9 W.heap.size v m) (hn : v.ownBlock ≠ none) (T : TypeId) :
    LX w (W9.alloc (.cells #[.int .i64 n1, v, .int .i64 g1] T)) rb ob W9.heap.size n1 g1 v m ∧ LD w (W9.alloc (.cells #[.int .i64 n1, v, .int .i64 g1] T)) b k rb ob n g s l := by
  have U : Below W9.heap.size W9 (W9.alloc (.cells #[.int .i64 n1, v, .int .i64 g1] T)) := (Below.refl _ _).alloc (Nat.le_refl _) _
  exact ⟨⟨C3.new W9 _ v _ T, (OwnPk.lower ho hw).below U, ⟨hn, fun e => by have := (World.ownsRow.lt ho _ e).1; omega, fun e => by have := (World.ownsRow.lt ho _ e).1; omega⟩⟩, h.below U⟩
theorem LX.early {w W W9 : World} {b k rb ob xb : Nat} {n n1 g g1 : Int} {u1 u2 u3 s v : Value} {l m : List Pk} (h : LD w W9 b k rb ob n g s l) (hx : C3 W9 xb u1 u2 u3) (hw : w.heap.size ≤ W.heap.size) (hW : rb < W.heap.size ∧ ob < W.heap.size) (ho : OwnPk W9 W.heap.size v m) (hn : v.ownBlock ≠ none) (hxw : w.heap.size ≤ xb ∧ xb < W.heap.size ∧ xb ≠ rb ∧ xb ≠ ob ∧ s.ownBlock ≠ some xb) :
    LX w (((W9.setCell ⟨xb, 0, none⟩ (.int .i64 n1)).setCell ⟨xb, 1, none⟩ v).setCell ⟨xb, 2, none⟩ (.int .i64 g1)) rb ob xb n1 g1 v m ∧ LD w (((W9.setCell ⟨xb, 0, none⟩ (.int .i64 n1)).setCell ⟨xb, 1, none⟩ v).setCell ⟨xb, 2, none⟩ (.int .i64 g1)) b k rb ob n g s l := by
  obtain ⟨x1, x2, x3, x4, x5⟩ := hxw
  have hvx : v.ownBlock ≠ some xb := fun e => by have := (World.ownsRow.lt ho _ e).1; omega
  exact ⟨⟨((hx.set0 _).set1 v).set2 _, (((OwnPk.lower ho hw).far hvx).far hvx).far hvx, ⟨hn, fun e => by have := (World.ownsRow.lt ho _ e).1; omega, fun e => by have := (World.ownsRow.lt ho _ e).1; omega⟩⟩, ((h.far x1 x3 x4 x5 _ _).far x1 x3 x4 x5 _ _).far x1 x3 x4 x5 _ _⟩
theorem pset : ∀ (l : List Pk) (i j : Nat) (x : Int), i < l.length → j < 3 → ∃ l' : List Pk, l'.length = l.length ∧ (pcells l).set (i * 3 + j) (.int .i64 x) = pcells l'
  | [], i, j, x, h, _ => by simp at h
  | p :: t, 0, j, x, _, hj => by
    obtain ⟨p1, p2, p3⟩ := p
    have e : pcells ((p1, p2, p3) :: t) = [.int .i64 p1, .int .i64 p2, .int .i64 p3] ++ pcells t := by simp [pcells, pcell]
    rcases (by omega : j = 0 ∨ j = 1 ∨ j = 2) with rfl | rfl | rfl
    · exact ⟨(x, p2, p3) :: t, rfl, by rw [e]; simp [pcells, pcell]⟩
    · exact ⟨(p1, x, p3) :: t, rfl, by rw [e]; simp [pcells, pcell]⟩
    · exact ⟨(p1, p2, x) :: t, rfl, by rw [e]; simp [pcells, pcell]⟩
  | p :: t, i + 1, j, x, h, hj => by
    obtain ⟨l', h1, h2⟩ := pset t i j x (by simpa using h) hj
    refine ⟨p :: l', by simp [h1], ?_⟩
    have e : pcells (p :: t) = pcell p ++ pcells t := by simp [pcells]
    have e' : pcells (p :: l') = pcell p ++ pcells l' := by simp [pcells]
    rw [e, e', ← h2, List.set_append_right _ _ (by simp [pcell]; omega)]
    congr 2
    simp [pcell]; omega
/-- One cell of the row is written. -/
theorem LD.setPk {w W : World} {b k rb ob q i c : Nat} {n g : Int} {l : List Pk} (h : LD w W b k rb ob n g (.slice (some ⟨q, 0, none⟩) l.length c) l) (hi : i < l.length) (j : Nat) (hj : j < 3) (x : Int) :
    ∃ l' : List Pk, l'.length = l.length ∧ LD w (W.setCell ⟨q, i * 3 + j, none⟩ (.int .i64 x)) b k rb ob n g (.slice (some ⟨q, 0, none⟩) l.length c) l' := by
  obtain ⟨l', h1, h2⟩ := pset l i j x hi hj
  have hq := World.ownsRow.lt h.own q rfl
  obtain ⟨o1, o2, o3⟩ := h.ord
  have hr : rb ≠ q := fun e => h.ne.2.1 (by rw [e]; rfl)
  have ho : ob ≠ q := fun e => h.ne.2.2 (by rw [e]; rfl)
  have hs := World.ownsRow.stored h.own (i * 3 + j) (.int .i64 x)
  exact ⟨l', h1, grown_set h.gr hq.1 _ _, h.rd.set (by omega) _ _, h.zer.far (fun e => hr e.symm), h.zf.set _ _, h.out.far (fun e => ho e.symm), h.of.set _ _, by unfold OwnPk; rw [h1, ← h2]; exact hs.1, h.ne, h.ord⟩

theorem LD.rowAt {w W : World} {b k rb ob q i c : Nat} {n g : Int} {l : List Pk} (h : LD w W b k rb ob n g (.slice (some ⟨q, 0, none⟩) l.length c) l) (hi : i < l.length) (j : Nat) (hj : j < 3) :
    (∃ y : Int, W.cell? ⟨q, i * 3 + j, none⟩ = some (.int .i64 y)) ∧ W.frozen? ⟨q, i * 3 + j, none⟩ = false := by
  refine ⟨?_, World.ownsRow.frozenAt h.own _⟩
  have e := (World.ownsRow.cellAt h.own (i * 3 + j) (by omega)).trans (pcells_at l i j hi hj)
  rcases (by omega : j = 0 ∨ j = 1 ∨ j = 2) with rfl | rfl | rfl <;> exact ⟨_, e⟩
/-- A row of one range of one number. -/
structure One (W : World) (B : Nat) (x : Int) : Prop where
  c0 : W.cell? ⟨B, 0, none⟩ = some (.int .i64 x)
  c1 : W.cell? ⟨B, 1, none⟩ = some (.int .i64 x)
theorem One.new (w : World) (x : Int) (T : TypeId) : One (w.alloc (.cells #[.int .i64 x, .int .i64 x] T)) w.heap.size x := by
  refine ⟨?_, ?_⟩ <;> (rw [World.cell?_alloc_mark]; rfl)
theorem One.lt {W : World} {B : Nat} {x : Int} (h : One W B x) : B < W.heap.size := World.block_lt_of_cell? W _ h.c0
theorem One.below {W W' : World} {B : Nat} {x : Int} (h : One W B x) (hb : Below W.heap.size W W') : One W' B x := ⟨(hb.cell (p := ⟨B, 0, none⟩) h.lt).trans h.c0, (hb.cell (p := ⟨B, 1, none⟩) h.lt).trans h.c1⟩
theorem One.kept {W W' : World} {B : Nat} {x : Int} {row : Option Nat} (h : One W B x) (hg : W.grownBy W' row) (hr : some B ≠ row) : One W' B x := ⟨hg.cell h.c0 hr, hg.cell h.c1 hr⟩
theorem One.rngs {W : World} {B : Nat} {x : Int} (h : One W B x) : Rngs W (.slice (some ⟨B, 0, none⟩) 1 1) [(x, x)] := by
  refine ⟨some ⟨B, 0, none⟩, 1, rfl, fun _ => ⟨B, 0, rfl, fun i hi => ?_⟩⟩
  have : i = 0 := by simp at hi; omega
  subst this
  exact ⟨h.c0, h.c1⟩
/-- A new variable, empty. -/
structure Emp (W : World) (A : Nat) : Prop where
  z : C3 W A (.int .i64 0) (.slice none 0 0) (.int .i64 0)
  f : Soft W A
theorem Emp.new (w : World) (T : TypeId) : Emp (w.alloc (.cells #[.int .i64 0, .slice none 0 0, .int .i64 0] T)) w.heap.size := ⟨C3.new w _ _ _ T, Soft.new w _ T⟩
theorem Emp.lt {W : World} {A : Nat} (h : Emp W A) : A < W.heap.size := h.z.lt
theorem Emp.below {W W' : World} {A : Nat} (h : Emp W A) (hb : Below W.heap.size W W') : Emp W' A := ⟨h.z.below hb, h.f.below hb h.z.lt⟩
theorem Emp.kept {W W' : World} {A : Nat} {row : Option Nat} (h : Emp W A) (hg : W.grownBy W' row) (hr : some A ≠ row) : Emp W' A := ⟨h.z.kept hg hr, h.f.kept hg h.z.lt hr⟩

theorem at_world {P : Program} {f : FuncId} {args : Array Value} {Q : Ending → World → Prop} (W : World) (h : Calls P f args W Q) : Calls P f args W Q := h

def DrewLs (w : World) (b k : Nat) (e : Ending) (w' : World) : Prop :=
  ∃ (n g : Int) (s : Value) (l : List Pk), e = .returned (.agg #[.int .i64 n, s, .int .i64 g]) ∧ (-1 ≤ n ∧ n ≤ 1001) ∧ (-1000 ≤ g ∧ g ≤ 1000) ∧ l.length ≤ 12 ∧ OwnPk w' w.heap.size s l ∧ s.ownBlock ≠ none ∧ w.grownBy w' (some b) ∧ Rdr w' b (k + 200)

theorem LD.start {w W w1 : World} {b k : Nat} {s : Value} (T : TypeId) (hs : OwnPk W (w.heap.size + 1) s []) (hn : s.ownBlock ≠ none) (hz : C3 W w.heap.size (.int .i64 0) (.slice none 0 0) (.int .i64 0)) (hzf : Soft W w.heap.size) (hw : Below w.heap.size w W) (hb : b < w.heap.size) (hR : Rdr W b k) :
    LD w (W.alloc (.cells #[.int .i64 0, s, .int .i64 (-1)] T)) b k w.heap.size W.heap.size 0 (-1) s [] := by
  have U : Below W.heap.size W (W.alloc (.cells #[.int .i64 0, s, .int .i64 (-1)] T)) := (Below.refl _ _).alloc (Nat.le_refl _) _
  have hl := hz.lt
  exact ⟨grown_below (hw.trans (U.mono hw.size)) _, hR.below U, hz.below U, hzf.below U hl, C3.new W _ s _ T, Soft.new W _ T, (OwnPk.lower hs (by omega)).below U, ⟨hn, fun e => by have := (World.ownsRow.lt hs _ e).1; omega, fun e => by have := (World.ownsRow.lt hs _ e).2; omega⟩, ⟨hb, Nat.le_refl _, hl⟩⟩

end Go.Proofs.Ytpbkhlkhnjmacaa
