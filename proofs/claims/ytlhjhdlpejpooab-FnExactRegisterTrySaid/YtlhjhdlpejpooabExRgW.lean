/- What the exact law of RegisterTry needs besides: variables kept while others are written. -/
import Derived.Test.YtlhjhdlpejpooabExRg
import Derived.Test.YtlhjhdlpejpooabIRy
import Derived.Test.YtlhjhdlpejpooabSTryv
import Derived.Deep.Cut
import Derived.Deep.CutBlock
namespace Go.Proofs.Ytlhjhdlpejpooab
open Go.RowKit
set_option linter.unusedVariables false
set_option linter.unusedSimpArgs false

/-- The two arguments in their variables. -/
structure YS (w W : World) (n : Int) (v : Value) (x y : Int) : Prop where
  bel : Below w.heap.size w W
  ar : RgV W w.heap.size n v
  tr : RgV W (w.heap.size + 1) x (.int .i64 y)
theorem YS.below {w W W' : World} {n x y : Int} {v : Value} (h : YS w W n v x y) (hb : Below W.heap.size W W') : YS w W' n v x y :=
  ⟨h.bel.trans (hb.mono h.bel.size), h.ar.below hb, h.tr.below hb⟩
theorem YS.alloc {w W : World} {n x y : Int} {v : Value} (h : YS w W n v x y) (o : Obj) : YS w (W.alloc o) n v x y := h.below ((Below.refl _ _).alloc (Nat.le_refl _) _)
theorem YS.drew {w W : World} {n x y : Int} {v : Value} (h : YS w W n v x y) : YS w W.drew n v x y := h.below (Below.refl _ _).drew
theorem YS.far {w W : World} {n x y : Int} {v : Value} (h : YS w W n v x y) {c : Nat} (hc : w.heap.size + 1 < c) (i : Nat) (u : Value) : YS w (W.setCell ⟨c, i, none⟩ u) n v x y :=
  ⟨h.bel.setCell (p := ⟨c, i, none⟩) (by show w.heap.size ≤ c; omega) u, h.ar.far (by omega), h.tr.far (by omega)⟩
theorem YS.kept {w W W' : World} {n x y : Int} {v : Value} {row : Option Nat} (h : YS w W n v x y) (hg : W.grownBy W' row) (hr : ∀ g, row = some g → w.heap.size + 1 < g) : YS w W' n v x y :=
  ⟨h.bel.grown hg h.bel.size (fun j hj => by have := hr j hj; omega), h.ar.kept hg (fun e => by have := hr _ e.symm; omega), h.tr.kept hg (fun e => by have := hr _ e.symm; omega)⟩
theorem YS.cells {w W : World} {n x y : Int} {v : Value} (h : YS w W n v x y) :
    W.cell? ⟨w.heap.size, 0, none⟩ = some (.int .i64 n) ∧ W.cell? ⟨w.heap.size, 1, none⟩ = some v ∧ W.cell? ⟨w.heap.size + 1, 0, none⟩ = some (.int .i64 x) ∧ W.cell? ⟨w.heap.size + 1, 1, none⟩ = some (.int .i64 y) :=
  ⟨h.ar.c0, h.ar.c1, h.tr.c0, h.tr.c1⟩

/-- A register of the law's own in a variable: the variable's block and the tickets' lie in [lo, hi). -/
structure VR (W : World) (lo hi p : Nat) (n : Int) (v : Value) (m : List Tic) : Prop where
  x : RgV W p n v
  o : OwnTc W 0 v m
  q : ∀ g, v.ownBlock = some g → lo ≤ g ∧ g < hi ∧ g ≠ p
  r : lo ≤ p ∧ p < hi
theorem VR.below {W W' : World} {lo hi p : Nat} {n : Int} {v : Value} {m : List Tic} (h : VR W lo hi p n v m) (hb : Below W.heap.size W W') : VR W' lo hi p n v m := ⟨h.x.below hb, h.o.below hb, h.q, h.r⟩
theorem VR.alloc {W : World} {lo hi p : Nat} {n : Int} {v : Value} {m : List Tic} (h : VR W lo hi p n v m) (o : Obj) : VR (W.alloc o) lo hi p n v m := h.below ((Below.refl _ _).alloc (Nat.le_refl _) _)
theorem VR.drew {W : World} {lo hi p : Nat} {n : Int} {v : Value} {m : List Tic} (h : VR W lo hi p n v m) : VR W.drew lo hi p n v m := h.below (Below.refl _ _).drew
theorem VR.far {W : World} {lo hi p : Nat} {n : Int} {v : Value} {m : List Tic} (h : VR W lo hi p n v m) {c : Nat} (hc : hi ≤ c) (i : Nat) (u : Value) : VR (W.setCell ⟨c, i, none⟩ u) lo hi p n v m :=
  ⟨h.x.far (by have := h.r; omega), OwnTc.far h.o (fun e => by have := h.q _ e; omega), h.q, h.r⟩
theorem VR.kept {W W' : World} {lo hi p : Nat} {n : Int} {v : Value} {m : List Tic} {row : Option Nat} (h : VR W lo hi p n v m) (hg : W.grownBy W' row) (hr : ∀ g, row = some g → g < lo ∨ hi ≤ g) : VR W' lo hi p n v m := by
  refine ⟨h.x.kept hg (fun e => by have := hr _ e.symm; have := h.r; omega), World.ownsRow.kept h.o hg ?_, h.q, h.r⟩
  cases hv : v.ownBlock with
  | none => exact .inl rfl
  | some g => exact .inr (fun e => by have := hr g e.symm; have := h.q g hv; omega)
theorem VR.mark {W W' : World} {lo hi p : Nat} {n : Int} {v : Value} {m M : List Tic} (h : VR W lo hi p n v m) (hg : W.grownBy W' v.ownBlock) (ho : OwnTc W' 0 v M) : VR W' lo hi p n v M :=
  ⟨h.x.kept hg (fun e => by have := h.q p e.symm; omega), ho, h.q, h.r⟩
theorem VR.rows {W : World} {lo hi p : Nat} {n : Int} {v : Value} {m : List Tic} (h : VR W lo hi p n v m) : ∀ g, v.ownBlock = some g → lo ≤ g ∧ g < hi := fun g hg => ⟨(h.q g hg).1, (h.q g hg).2.1⟩
/-- What outlives calls, and stores into blocks from T on. -/
structure Kp (T : Nat) (F : World → Prop) : Prop where
  bel : ∀ {W W' : World}, F W → Below W.heap.size W W' → F W'
  far : ∀ {W : World} {c : Nat} (i : Nat) (u : Value), F W → T ≤ c → F (W.setCell ⟨c, i, none⟩ u)
theorem Kp.drew {T : Nat} {F : World → Prop} (k : Kp T F) {W : World} (h : F W) : F W.drew := k.bel h (Below.refl _ _).drew
theorem Kp.alloc {T : Nat} {F : World → Prop} (k : Kp T F) {W : World} (h : F W) (o : Obj) : F (W.alloc o) := k.bel h ((Below.refl _ _).alloc (Nat.le_refl _) _)
theorem Kp.and {T : Nat} {F G : World → Prop} (k : Kp T F) (l : Kp T G) : Kp T (fun W => F W ∧ G W) := ⟨fun h hb => ⟨k.bel h.1 hb, l.bel h.2 hb⟩, fun i u h hc => ⟨k.far i u h.1 hc, l.far i u h.2 hc⟩⟩
theorem Kp.ys {w : World} {n x y : Int} {v : Value} {T : Nat} (hT : w.heap.size + 1 < T) : Kp T (fun W => YS w W n v x y) := ⟨fun h hb => h.below hb, fun i u h hc => h.far (by omega) i u⟩
theorem Kp.vr {lo hi p : Nat} {n : Int} {v : Value} {m : List Tic} {T : Nat} (hT : hi ≤ T) : Kp T (fun W => VR W lo hi p n v m) := ⟨fun h hb => h.below hb, fun i u h hc => h.far (by omega) i u⟩
/-- A variable that is still zero. -/
structure ZV (W : World) (lo c : Nat) : Prop where
  x : RgV W c 0 (.slice none 0 0)
  f : Soft W c
  lo : lo ≤ c
theorem ZV.new {W : World} {lo : Nat} (h : lo ≤ W.heap.size) (T : TypeId) : ZV (W.alloc (.cells #[.int .i64 0, .slice none 0 0] T)) lo W.heap.size := ⟨RgV.new W 0 _ T, Soft.new W #[.int .i64 0, .slice none 0 0] T, h⟩
theorem ZV.below {W W' : World} {lo c : Nat} (h : ZV W lo c) (hb : Below W.heap.size W W') : ZV W' lo c := ⟨h.x.below hb, h.f.below hb h.x.lt, h.lo⟩
theorem ZV.size {W : World} {lo c : Nat} (z : ZV W lo c) (a b : Value) : W.heap.size ≤ ((W.setCell ⟨c, 0, none⟩ a).setCell ⟨c, 1, none⟩ b).heap.size := by simp [World.setCell]
def GotR (W : World) (n : Int) (m : List Tic) (q : Bool) (e : Ending) (w' : World) : Prop := ∃ v', e = .returned (.tuple #[.agg #[.int .i64 n, v'], .bool q]) ∧ OwnTc w' W.heap.size v' m ∧ Below W.heap.size W w'
/-- The variable was made ahead of the call whose answer is stored. -/
theorem VR.store {W : World} {lo B c : Nat} {n : Int} {v : Value} {m : List Tic} (z : ZV W lo c) (ho : OwnTc W B v m) (hc : c < B) (hB : lo ≤ B) :
    VR ((W.setCell ⟨c, 0, none⟩ (.int .i64 n)).setCell ⟨c, 1, none⟩ v) lo W.heap.size c n v m := by
  have hne : v.ownBlock ≠ some c := fun e => by have := (World.ownsRow.lt ho _ e).1; omega
  exact ⟨(z.x.set0 n).set1 v, OwnTc.far (OwnTc.far (OwnTc.zero ho) hne) hne, fun g hg => by have := World.ownsRow.lt ho g hg; omega, z.lo, z.x.lt⟩
/-- .. behind it. -/
theorem VR.make {W : World} {lo B : Nat} {n : Int} {v : Value} {m : List Tic} (ho : OwnTc W B v m) (hB : lo ≤ B) (hW : lo ≤ W.heap.size) (T : TypeId) :
    VR (W.alloc (.cells #[.int .i64 n, v] T)) lo (W.heap.size + 1) W.heap.size n v m :=
  ⟨RgV.new W n v T, (OwnTc.zero ho).below ((Below.refl _ _).alloc (Nat.le_refl _) _), fun g hg => by have := World.ownsRow.lt ho g hg; omega, hW, by omega⟩

end Go.Proofs.Ytlhjhdlpejpooab
