/- Where the exact law of LossAck stands. -/
import Derived.Test.YtccolpaenmebeaaExLq
import Derived.Test.YtccolpaenmebeaaEqInt
import Derived.Test.YtccolpaenmebeaaMark
import Derived.Test.YtccolpaenmebeaaEqRg0
import Derived.Test.YtccolpaenmebeaaMkF0
import Derived.Test.YtccolpaenmebeaaLaMath
namespace Go.Proofs.Ytccolpaenmebeaa
open Go.RowKit
set_option linter.unusedVariables false
set_option linter.unusedSimpArgs false

/-- The row x of its own: none of the blocks bs, of the rows us. -/
def Sep (b0 : Nat) (x : Value) (bs : List Nat) (us : List Value) : Prop := ∀ b, x.ownBlock = some b → b0 ≤ b ∧ (∀ p ∈ bs, p ≠ b) ∧ ∀ u ∈ us, u.ownBlock ≠ some b
theorem Sep.blk {b0 p : Nat} {x : Value} {bs : List Nat} {us : List Value} (h : Sep b0 x bs us) (hp : p ∈ bs) : some p ≠ x.ownBlock := fun e => (h p e.symm).2.1 p hp rfl
theorem Sep.row {b0 : Nat} {x u : Value} {bs : List Nat} {us : List Value} (h : Sep b0 x bs us) (hu : u ∈ us) : u.ownBlock = none ∨ u.ownBlock ≠ x.ownBlock := by
  cases hq : u.ownBlock with
  | none => exact .inl rfl
  | some b => exact .inr (fun e => (h b e.symm).2.2 u hu hq)
structure ZS (w W : World) (n g n' g' : Int) (v v2 gv2 lv2 v3 v4 gv4 lv4 : Value) (p2 p3 p4 : Nat) (m : List Pk) (gs lo : List Int) (M3 M4 : List Pk) (G4 L4 : List Int) : Prop where
  bel : Below w.heap.size w W
  ar : C3 W w.heap.size (.int .i64 n) v (.int .i64 g)
  x2 : C3 W p2 (.int .i64 n') v2 (.int .i64 g')
  x3 : C3 W p3 (.int .i64 n) v3 (.int .i64 g)
  x4 : C3 W p4 (.int .i64 n') v4 (.int .i64 g')
  o2 : OwnPk W 0 v2 m
  i2 : OwnI W 0 gv2 gs
  j2 : OwnI W 0 lv2 lo
  o3 : OwnPk W 0 v3 M3
  o4 : OwnPk W 0 v4 M4
  i4 : OwnI W 0 gv4 G4
  j4 : OwnI W 0 lv4 L4
section
variable {w W W' : World} {n g n' g' : Int} {v v2 gv2 lv2 v3 v4 gv4 lv4 : Value} {p2 p3 p4 : Nat} {m : List Pk} {gs lo : List Int} {M3 M4 : List Pk} {G4 L4 : List Int} {xv : Value}
theorem ZS.below (h : ZS w W n g n' g' v v2 gv2 lv2 v3 v4 gv4 lv4 p2 p3 p4 m gs lo M3 M4 G4 L4) (hb : Below W.heap.size W W') : ZS w W' n g n' g' v v2 gv2 lv2 v3 v4 gv4 lv4 p2 p3 p4 m gs lo M3 M4 G4 L4 :=
  ⟨h.bel.trans (hb.mono h.bel.size), h.ar.below hb, h.x2.below hb, h.x3.below hb, h.x4.below hb, own_below h.o2 hb, own_below h.i2 hb, own_below h.j2 hb, own_below h.o3 hb, own_below h.o4 hb, own_below h.i4 hb, own_below h.j4 hb⟩
theorem ZS.mark3 {N : List Pk} (h : ZS w W n g n' g' v v2 gv2 lv2 v3 v4 gv4 lv4 p2 p3 p4 m gs lo M3 M4 G4 L4) (s : Sep w.heap.size v3 [w.heap.size, p2, p3, p4] [v2, gv2, lv2, xv, v4, gv4, lv4]) (hg : W.grownBy W' v3.ownBlock) (ho : OwnPk W' 0 v3 N) :
    ZS w W' n g n' g' v v2 gv2 lv2 v3 v4 gv4 lv4 p2 p3 p4 m gs lo N M4 G4 L4 :=
  ⟨h.bel.grown hg h.bel.size (fun j hj => (s j hj).1), h.ar.kept hg (s.blk (by simp)), h.x2.kept hg (s.blk (by simp)), h.x3.kept hg (s.blk (by simp)), h.x4.kept hg (s.blk (by simp)),
    World.ownsRow.kept h.o2 hg (s.row (by simp)), World.ownsRow.kept h.i2 hg (s.row (by simp)), World.ownsRow.kept h.j2 hg (s.row (by simp)), ho, World.ownsRow.kept h.o4 hg (s.row (by simp)), World.ownsRow.kept h.i4 hg (s.row (by simp)), World.ownsRow.kept h.j4 hg (s.row (by simp))⟩
theorem ZS.mark4 {N : List Pk} (h : ZS w W n g n' g' v v2 gv2 lv2 v3 v4 gv4 lv4 p2 p3 p4 m gs lo M3 M4 G4 L4) (s : Sep w.heap.size v4 [w.heap.size, p2, p3, p4] [v2, gv2, lv2, v3, xv, gv4, lv4]) (hg : W.grownBy W' v4.ownBlock) (ho : OwnPk W' 0 v4 N) :
    ZS w W' n g n' g' v v2 gv2 lv2 v3 v4 gv4 lv4 p2 p3 p4 m gs lo M3 N G4 L4 :=
  ⟨h.bel.grown hg h.bel.size (fun j hj => (s j hj).1), h.ar.kept hg (s.blk (by simp)), h.x2.kept hg (s.blk (by simp)), h.x3.kept hg (s.blk (by simp)), h.x4.kept hg (s.blk (by simp)),
    World.ownsRow.kept h.o2 hg (s.row (by simp)), World.ownsRow.kept h.i2 hg (s.row (by simp)), World.ownsRow.kept h.j2 hg (s.row (by simp)), World.ownsRow.kept h.o3 hg (s.row (by simp)), ho, World.ownsRow.kept h.i4 hg (s.row (by simp)), World.ownsRow.kept h.j4 hg (s.row (by simp))⟩
theorem ZS.markg {N : List Int} (h : ZS w W n g n' g' v v2 gv2 lv2 v3 v4 gv4 lv4 p2 p3 p4 m gs lo M3 M4 G4 L4) (s : Sep w.heap.size gv4 [w.heap.size, p2, p3, p4] [v2, gv2, lv2, v3, xv, v4, lv4]) (hg : W.grownBy W' gv4.ownBlock) (ho : OwnI W' 0 gv4 N) :
    ZS w W' n g n' g' v v2 gv2 lv2 v3 v4 gv4 lv4 p2 p3 p4 m gs lo M3 M4 N L4 :=
  ⟨h.bel.grown hg h.bel.size (fun j hj => (s j hj).1), h.ar.kept hg (s.blk (by simp)), h.x2.kept hg (s.blk (by simp)), h.x3.kept hg (s.blk (by simp)), h.x4.kept hg (s.blk (by simp)),
    World.ownsRow.kept h.o2 hg (s.row (by simp)), World.ownsRow.kept h.i2 hg (s.row (by simp)), World.ownsRow.kept h.j2 hg (s.row (by simp)), World.ownsRow.kept h.o3 hg (s.row (by simp)), World.ownsRow.kept h.o4 hg (s.row (by simp)), ho, World.ownsRow.kept h.j4 hg (s.row (by simp))⟩
theorem ZS.markl {N : List Int} (h : ZS w W n g n' g' v v2 gv2 lv2 v3 v4 gv4 lv4 p2 p3 p4 m gs lo M3 M4 G4 L4) (s : Sep w.heap.size lv4 [w.heap.size, p2, p3, p4] [v2, gv2, lv2, v3, xv, v4, gv4]) (hg : W.grownBy W' lv4.ownBlock) (ho : OwnI W' 0 lv4 N) :
    ZS w W' n g n' g' v v2 gv2 lv2 v3 v4 gv4 lv4 p2 p3 p4 m gs lo M3 M4 G4 N :=
  ⟨h.bel.grown hg h.bel.size (fun j hj => (s j hj).1), h.ar.kept hg (s.blk (by simp)), h.x2.kept hg (s.blk (by simp)), h.x3.kept hg (s.blk (by simp)), h.x4.kept hg (s.blk (by simp)),
    World.ownsRow.kept h.o2 hg (s.row (by simp)), World.ownsRow.kept h.i2 hg (s.row (by simp)), World.ownsRow.kept h.j2 hg (s.row (by simp)), World.ownsRow.kept h.o3 hg (s.row (by simp)), World.ownsRow.kept h.o4 hg (s.row (by simp)), World.ownsRow.kept h.i4 hg (s.row (by simp)), ho⟩
theorem ZS.markx (h : ZS w W n g n' g' v v2 gv2 lv2 v3 v4 gv4 lv4 p2 p3 p4 m gs lo M3 M4 G4 L4) (s : Sep w.heap.size xv [w.heap.size, p2, p3, p4] [v2, gv2, lv2, v3, v4, gv4, lv4]) (hg : W.grownBy W' xv.ownBlock) :
    ZS w W' n g n' g' v v2 gv2 lv2 v3 v4 gv4 lv4 p2 p3 p4 m gs lo M3 M4 G4 L4 :=
  ⟨h.bel.grown hg h.bel.size (fun j hj => (s j hj).1), h.ar.kept hg (s.blk (by simp)), h.x2.kept hg (s.blk (by simp)), h.x3.kept hg (s.blk (by simp)), h.x4.kept hg (s.blk (by simp)),
    World.ownsRow.kept h.o2 hg (s.row (by simp)), World.ownsRow.kept h.i2 hg (s.row (by simp)), World.ownsRow.kept h.j2 hg (s.row (by simp)), World.ownsRow.kept h.o3 hg (s.row (by simp)), World.ownsRow.kept h.o4 hg (s.row (by simp)), World.ownsRow.kept h.i4 hg (s.row (by simp)), World.ownsRow.kept h.j4 hg (s.row (by simp))⟩
/-- Every row apart, by where the blocks lie: s < v2, gv2, lv2 < p2 < v3 < p3 < xv < h ≤ v4, gv4, lv4 < p4. -/
theorem seps {s h : Nat} (ord : s < p2 ∧ p2 < p3 ∧ p3 < h ∧ h ≤ p4) (q2 : ∀ u ∈ [v2, gv2, lv2], ∀ b, u.ownBlock = some b → s < b ∧ b < p2) (q3 : ∀ b, v3.ownBlock = some b → p2 < b ∧ b < p3) (qx : ∀ b, xv.ownBlock = some b → p3 < b ∧ b < h) (q4 : ∀ u ∈ [v4, gv4, lv4], ∀ b, u.ownBlock = some b → h ≤ b ∧ b < p4) (ap : Apart3 v4 gv4 lv4) :
    Sep s v3 [s, p2, p3, p4] [v2, gv2, lv2, xv, v4, gv4, lv4] ∧ Sep s v4 [s, p2, p3, p4] [v2, gv2, lv2, v3, xv, gv4, lv4] ∧ Sep s gv4 [s, p2, p3, p4] [v2, gv2, lv2, v3, xv, v4, lv4] ∧ Sep s lv4 [s, p2, p3, p4] [v2, gv2, lv2, v3, xv, v4, gv4] ∧ Sep s xv [s, p2, p3, p4] [v2, gv2, lv2, v3, v4, gv4, lv4] := by
  have a1 := q2 v2 (by simp)
  have a2 := q2 gv2 (by simp)
  have a3 := q2 lv2 (by simp)
  have a4 := q4 v4 (by simp)
  have a5 := q4 gv4 (by simp)
  have a6 := q4 lv4 (by simp)
  refine ⟨?_, ?_, ?_, ?_, ?_⟩
  · intro b hb
    have k := q3 b hb
    refine ⟨by omega, by simp; omega, ?_⟩
    simp only [List.mem_cons, List.not_mem_nil, or_false, forall_eq_or_imp, forall_eq]
    refine ⟨fun e => ?_, fun e => ?_, fun e => ?_, fun e => ?_, fun e => ?_, fun e => ?_, fun e => ?_⟩
    · have := a1 b e; omega
    · have := a2 b e; omega
    · have := a3 b e; omega
    · have := qx b e; omega
    · have := a4 b e; omega
    · have := a5 b e; omega
    · have := a6 b e; omega
  · intro b hb
    have k := a4 b hb
    refine ⟨by omega, by simp; omega, ?_⟩
    simp only [List.mem_cons, List.not_mem_nil, or_false, forall_eq_or_imp, forall_eq]
    refine ⟨fun e => ?_, fun e => ?_, fun e => ?_, fun e => ?_, fun e => ?_, ((ap b).1 hb).1, ((ap b).1 hb).2⟩
    · have := a1 b e; omega
    · have := a2 b e; omega
    · have := a3 b e; omega
    · have := q3 b e; omega
    · have := qx b e; omega
  · intro b hb
    have k := a5 b hb
    refine ⟨by omega, by simp; omega, ?_⟩
    simp only [List.mem_cons, List.not_mem_nil, or_false, forall_eq_or_imp, forall_eq]
    refine ⟨fun e => ?_, fun e => ?_, fun e => ?_, fun e => ?_, fun e => ?_, fun e => ((ap b).1 e).1 hb, (ap b).2 hb⟩
    · have := a1 b e; omega
    · have := a2 b e; omega
    · have := a3 b e; omega
    · have := q3 b e; omega
    · have := qx b e; omega
  · intro b hb
    have k := a6 b hb
    refine ⟨by omega, by simp; omega, ?_⟩
    simp only [List.mem_cons, List.not_mem_nil, or_false, forall_eq_or_imp, forall_eq]
    refine ⟨fun e => ?_, fun e => ?_, fun e => ?_, fun e => ?_, fun e => ?_, fun e => ((ap b).1 e).2 hb, fun e => (ap b).2 e hb⟩
    · have := a1 b e; omega
    · have := a2 b e; omega
    · have := a3 b e; omega
    · have := q3 b e; omega
    · have := qx b e; omega
  · intro b hb
    have k := qx b hb
    refine ⟨by omega, by simp; omega, ?_⟩
    simp only [List.mem_cons, List.not_mem_nil, or_false, forall_eq_or_imp, forall_eq]
    refine ⟨fun e => ?_, fun e => ?_, fun e => ?_, fun e => ?_, fun e => ?_, fun e => ?_, fun e => ?_⟩
    · have := a1 b e; omega
    · have := a2 b e; omega
    · have := a3 b e; omega
    · have := q3 b e; omega
    · have := a4 b e; omega
    · have := a5 b e; omega
    · have := a6 b e; omega
end

end Go.Proofs.Ytccolpaenmebeaa
