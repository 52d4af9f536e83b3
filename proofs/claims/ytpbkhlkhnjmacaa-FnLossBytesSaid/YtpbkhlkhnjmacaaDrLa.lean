/- The drawn arguments of LossSend, LossAck, LossTimer: where they stand. -/
import Derived.Test.YtpbkhlkhnjmacaaDrLs
import Derived.Test.YtpbkhlkhnjmacaaDrNow
import Derived.Test.YtpbkhlkhnjmacaaDrawRg
import Derived.BigRegion
namespace Go.Proofs.Ytpbkhlkhnjmacaa
open Go.RowKit
set_option linter.unusedVariables false
set_option linter.unusedSimpArgs false

theorem results_cts {fn : Func} {p q : Tmp} {ty : TypeId} (h : fn.results = #[.cell p ty, .tmp q]) (tmps : Array Value) (P : Program) (w : World) :
    (results fn tmps).run P w = ((asAddr (tmps.getD p undef)).run P w).andThen fun a w₁ => ((loadVar ty a).run P w₁).andThen fun v w₂ => .ok (.tuple #[v, tmps.getD q undef]) w₂ := by
  simp only [results, h]
  simp [Sem.run_bind, Result.andThen]
theorem cell_old {w : World} {a : Addr} {v : Value} (o : Obj) (h : w.cell? a = some v) : (w.alloc o).cell? a = some v := ((below_al w o).cell (World.block_lt_of_cell? w _ h)).trans h
/-- The drawn state stands in a variable of its own. -/
structure DS (w W : World) (b k rb xb : Nat) (n g : Int) (s : Value) (l : List Pk) : Prop where
  bel : Below w.heap.size w W
  rd : Rdr W b k
  zer : C3 W rb (.int .i64 0) (.slice none 0 0) (.int .i64 0)
  zf : Soft W rb
  x : C3 W xb (.int .i64 n) s (.int .i64 g)
  own : OwnPk W (b + 1) s l
  ne : s.ownBlock ≠ none ∧ s.ownBlock ≠ some xb
  ord : w.heap.size ≤ rb ∧ rb < b ∧ b < xb
theorem DS.below {w W W' : World} {b k rb xb : Nat} {n g : Int} {s : Value} {l : List Pk} (h : DS w W b k rb xb n g s l) (hb : Below W.heap.size W W') : DS w W' b k rb xb n g s l :=
  ⟨h.bel.trans (hb.mono h.bel.size), h.rd.below hb, h.zer.below hb, h.zf.below hb h.zer.lt, h.x.below hb, h.own.below hb, h.ne, h.ord⟩
theorem DS.drew {w W : World} {b k rb xb : Nat} {n g : Int} {s : Value} {l : List Pk} (h : DS w W b k rb xb n g s l) : DS w W.drew b k rb xb n g s l := h.below (Below.refl _ _).drew
theorem DS.pick {w W W' : World} {b k k' rb xb : Nat} {n g : Int} {s : Value} {l : List Pk} (h : DS w W b k rb xb n g s l) (hg : W.grownBy W' (some b)) (hR : Rdr W' b k') : DS w W' b k' rb xb n g s l := by
  obtain ⟨o1, o2, o3⟩ := h.ord
  have n1 : some rb ≠ some b := fun e => by have := Option.some.inj e; omega
  have n2 : some xb ≠ some b := fun e => by have := Option.some.inj e; omega
  exact ⟨h.bel.grown hg h.bel.size (fun j hj => by injection hj with hj; omega), hR, h.zer.kept hg n1, h.zf.kept hg h.zer.lt n1, h.x.kept hg n2, h.own.picked hg (Nat.lt_succ_self b), h.ne, h.ord⟩
theorem DS.start {w w1 w2 : World} {k rb b : Nat} {n g : Int} {s : Value} {l : List Pk} (hrb : w.heap.size ≤ rb) (hb : rb < b) (hbel : Below w.heap.size w w1) (hz : C3 w1 rb (.int .i64 0) (.slice none 0 0) (.int .i64 0)) (hzf : Soft w1 rb) (hs : b < w1.heap.size) (hg : w1.grownBy w2 (some b)) (hR : Rdr w2 b k) (ho : OwnPk w2 w1.heap.size s l) (hn : s.ownBlock ≠ none) (T : TypeId) :
    DS w (w2.alloc (.cells #[.int .i64 n, s, .int .i64 g] T)) b k rb w2.heap.size n g s l := by
  have U : Below w2.heap.size w2 (w2.alloc (.cells #[.int .i64 n, s, .int .i64 g] T)) := below_al _ _
  have n1 : some rb ≠ some b := fun e => by have := Option.some.inj e; omega
  have Z := hz.kept hg n1
  have hb2 : Below w.heap.size w w2 := hbel.grown hg hbel.size (fun j hj => by injection hj with hj; omega)
  have hs2 := hg.size
  exact ⟨hb2.trans (U.mono hb2.size), hR.below U, Z.below U, (hzf.kept hg hz.lt n1).below U Z.lt, C3.new w2 _ s _ T, (OwnPk.lower ho (by omega)).below U, ⟨hn, fun e => by have := (World.ownsRow.lt ho _ e).2; omega⟩, ⟨by omega, by omega, by omega⟩⟩
/-- The end: the state is laid into the result. -/
theorem DS.fin {w W : World} {b k rb xb : Nat} {n g : Int} {s : Value} {l : List Pk} (h : DS w W b k rb xb n g s l) :
    C3 (((W.setCell ⟨rb, 0, none⟩ (.int .i64 n)).setCell ⟨rb, 1, none⟩ s).setCell ⟨rb, 2, none⟩ (.int .i64 g)) rb (.int .i64 n) s (.int .i64 g) ∧ Below w.heap.size w (((W.setCell ⟨rb, 0, none⟩ (.int .i64 n)).setCell ⟨rb, 1, none⟩ s).setCell ⟨rb, 2, none⟩ (.int .i64 g)) ∧ OwnPk (((W.setCell ⟨rb, 0, none⟩ (.int .i64 n)).setCell ⟨rb, 1, none⟩ s).setCell ⟨rb, 2, none⟩ (.int .i64 g)) w.heap.size s l ∧ C3 (((W.setCell ⟨rb, 0, none⟩ (.int .i64 n)).setCell ⟨rb, 1, none⟩ s).setCell ⟨rb, 2, none⟩ (.int .i64 g)) xb (.int .i64 n) s (.int .i64 g) := by
  obtain ⟨o1, o2, o3⟩ := h.ord
  have hw : s.ownBlock ≠ some rb := fun e => by have := (World.ownsRow.lt h.own _ e).1; omega
  exact ⟨((h.zer.set0 _).set1 s).set2 _, ((h.bel.setCell (p := ⟨rb, 0, none⟩) o1 _).setCell (p := ⟨rb, 1, none⟩) o1 _).setCell (p := ⟨rb, 2, none⟩) o1 _, OwnPk.lower (((h.own.far hw).far hw).far hw) (by omega), ((h.x.far (by omega)).far (by omega)).far (by omega)⟩

def GotLs (w : World) (n g : Int) (v : Value) (l : List Pk) (w' : World) : Prop := l.length ≤ 12 ∧ OwnPk w' w.heap.size v l ∧ v.ownBlock ≠ none ∧ Below w.heap.size w w'

end Go.Proofs.Ytpbkhlkhnjmacaa
