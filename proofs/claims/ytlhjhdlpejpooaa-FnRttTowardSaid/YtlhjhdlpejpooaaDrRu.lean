/- The drawn arguments of chapter 21. -/
import Derived.Test.YtlhjhdlpejpooaaDrRt
import Derived.Deep.RegionHeldLaw
namespace Go.Proofs.Ytlhjhdlpejpooaa
open Go.RowKit
set_option linter.unusedVariables false
set_option linter.unusedSimpArgs false

/-- The result's block (zero), the reader, the drawn estimate's block. -/
structure DQ (w W : World) (b k xb : Nat) (x y z t : Int) : Prop where
  bel : Below w.heap.size w W
  rd : Rdr W b k
  zer : R4 W w.heap.size 0 0 0 0
  o : R4 W xb x y z t
  ord : w.heap.size < b ∧ b < xb
theorem DQ.below {w W W' : World} {b k xb : Nat} {x y z t : Int} (h : DQ w W b k xb x y z t) (hb : Below W.heap.size W W') : DQ w W' b k xb x y z t :=
  ⟨h.bel.trans (hb.mono h.bel.size), h.rd.below hb, h.zer.below hb h.zer.lt, h.o.below hb h.o.lt, h.ord⟩
theorem DQ.alloc {w W : World} {b k xb : Nat} {x y z t : Int} (h : DQ w W b k xb x y z t) (o : Obj) : DQ w (W.alloc o) b k xb x y z t := h.below ((Below.refl _ _).alloc (Nat.le_refl _) _)
theorem DQ.pick {w W W' : World} {b k k' xb : Nat} {x y z t : Int} (h : DQ w W b k xb x y z t) (hg : W.grownBy W' (some b)) (hR : Rdr W' b k') : DQ w W' b k' xb x y z t := by
  obtain ⟨o1, o2⟩ := h.ord
  exact ⟨h.bel.grown hg h.bel.size (fun j hj => by injection hj with hj; omega), hR, h.zer.kept hg (fun e => by have := Option.some.inj e; omega), h.o.kept hg (fun e => by have := Option.some.inj e; omega), h.ord⟩
theorem DQ.start {w w1 w2 : World} {b k : Nat} {x y z t : Int} (hb : w.heap.size < b) (hbel : Below w.heap.size w w1) (hz : R4 w1 w.heap.size 0 0 0 0) (hs : b < w1.heap.size) (hg : w1.grownBy w2 (some b)) (hR : Rdr w2 b k) (T : TypeId) :
    DQ w (w2.alloc (.cells #[.int .i64 x, .int .i64 y, .int .i64 z, .int .i64 t] T)) b k w2.heap.size x y z t := by
  have U : Below w2.heap.size w2 (w2.alloc (.cells #[.int .i64 x, .int .i64 y, .int .i64 z, .int .i64 t] T)) := (Below.refl _ _).alloc (Nat.le_refl _) _
  have Z := hz.kept hg (fun e => by have := Option.some.inj e; omega)
  have hb2 : Below w.heap.size w w2 := hbel.grown hg hbel.size (fun j hj => by injection hj with hj; omega)
  have hs2 := hg.size
  exact ⟨hb2.trans (U.mono hb2.size), hR.below U, Z.below U Z.lt, R4.new w2 x y z t T, hb, by omega⟩
theorem DQ.fin {w W : World} {b k xb : Nat} {x y z t : Int} (h : DQ w W b k xb x y z t) :
    R4 ((((W.setCell ⟨w.heap.size, 0, none⟩ (.int .i64 x)).setCell ⟨w.heap.size, 1, none⟩ (.int .i64 y)).setCell ⟨w.heap.size, 2, none⟩ (.int .i64 z)).setCell ⟨w.heap.size, 3, none⟩ (.int .i64 t)) w.heap.size x y z t ∧
    Below w.heap.size w ((((W.setCell ⟨w.heap.size, 0, none⟩ (.int .i64 x)).setCell ⟨w.heap.size, 1, none⟩ (.int .i64 y)).setCell ⟨w.heap.size, 2, none⟩ (.int .i64 z)).setCell ⟨w.heap.size, 3, none⟩ (.int .i64 t)) :=
  ⟨(((h.zer.set0 x).set1 y).set2 z).set3 t, (((h.bel.setCell (p := ⟨_, 0, none⟩) (Nat.le_refl _) _).setCell (p := ⟨_, 1, none⟩) (Nat.le_refl _) _).setCell (p := ⟨_, 2, none⟩) (Nat.le_refl _) _).setCell (p := ⟨_, 3, none⟩) (Nat.le_refl _) _⟩
theorem results_cell_tmp3 {fn : Func} {p t u : Tmp} {ty : TypeId} (h : fn.results = #[.cell p ty, .tmp t, .tmp u]) (tmps : Array Value) (P : Program) (w : World) :
    (results fn tmps).run P w = ((asAddr (tmps.getD p undef)).run P w).andThen fun a w₁ => ((loadVar ty a).run P w₁).andThen fun v w₂ => .ok (.tuple #[v, tmps.getD t undef, tmps.getD u undef]) w₂ := by
  simp only [results, h]
  simp [Sem.run_bind, Result.andThen]
theorem results_cell_tmp1 {fn : Func} {p t : Tmp} {ty : TypeId} (h : fn.results = #[.cell p ty, .tmp t]) (tmps : Array Value) (P : Program) (w : World) :
    (results fn tmps).run P w = ((asAddr (tmps.getD p undef)).run P w).andThen fun a w₁ => ((loadVar ty a).run P w₁).andThen fun v w₂ => .ok (.tuple #[v, tmps.getD t undef]) w₂ := by
  simp only [results, h]
  simp [Sem.run_bind, Result.andThen]

def GotLd (w : World) (e : Ending) (w' : World) : Prop :=
  ∃ x y z t : Int, rbd x y z t ∧ e = .returned (.agg #[.int .i64 x, .int .i64 y, .int .i64 z, .int .i64 t]) ∧ Below w.heap.size w w'
def GotPr (w : World) (e : Ending) (w' : World) : Prop :=
  ∃ x y z t k : Int, (rbd x y z t ∧ -1 ≤ k ∧ k ≤ 8) ∧ e = .returned (.tuple #[.agg #[.int .i64 x, .int .i64 y, .int .i64 z, .int .i64 t], .int .i64 k]) ∧ Below w.heap.size w w'
def GotRu (w : World) (e : Ending) (w' : World) : Prop :=
  ∃ x y z t s u : Int, (rbd x y z t ∧ (0 ≤ s ∧ s ≤ 1000) ∧ -1 ≤ u ∧ u ≤ 1000) ∧ e = .returned (.tuple #[.agg #[.int .i64 x, .int .i64 y, .int .i64 z, .int .i64 t], .int .i64 s, .int .i64 u]) ∧ Below w.heap.size w w'
theorem s_at (r : Int) (hr : 0 ≤ r ∧ r ≤ 200) (y : Nat) (hy : (y : Int) < 5) : ∃ v : Int, 0 ≤ v ∧ v ≤ 1000 ∧ (#[.int .i64 0, .int .i64 1, .int .i64 999, .int .i64 1000, .int .i64 r] : Array Value)[y]? = some (.int .i64 v) := by
  have hy' : y < 5 := by omega
  match y, hy' with
  | 0, _ => exact ⟨0, by omega, by omega, rfl⟩
  | 1, _ => exact ⟨1, by omega, by omega, rfl⟩
  | 2, _ => exact ⟨999, by omega, by omega, rfl⟩
  | 3, _ => exact ⟨1000, by omega, by omega, rfl⟩
  | 4, _ => exact ⟨r, by omega, by omega, rfl⟩
theorem d_at (s p q : Int) (hs : 0 ≤ s ∧ s ≤ 1000) (hp : 0 ≤ p ∧ p < 60) (hq : 0 ≤ q ∧ q < 20) (y : Nat) (hy : (y : Int) < 7) : ∃ v : Int, -1 ≤ v ∧ v ≤ 1000 ∧ (#[.int .i64 (-1), .int .i64 0, .int .i64 1, .int .i64 s, .int .i64 1000, .int .i64 p, .int .i64 q] : Array Value)[y]? = some (.int .i64 v) := by
  have hy' : y < 7 := by omega
  match y, hy' with
  | 0, _ => exact ⟨-1, by omega, by omega, rfl⟩
  | 1, _ => exact ⟨0, by omega, by omega, rfl⟩
  | 2, _ => exact ⟨1, by omega, by omega, rfl⟩
  | 3, _ => exact ⟨s, by omega, by omega, rfl⟩
  | 4, _ => exact ⟨1000, by omega, by omega, rfl⟩
  | 5, _ => exact ⟨p, by omega, by omega, rfl⟩
  | 6, _ => exact ⟨q, by omega, by omega, rfl⟩

set_option maxRecDepth 100000 in
set_option maxHeartbeats 4000000 in
theorem drawLd_any (a : Option Addr) (len cap : Nat) (zs : List Int) (w : World) (h : IsRow .u8 w a len cap zs) :
    Calls Try.prog 19 #[.slice a len cap] w (GotLd w) := by
  have U0 : Below w.heap.size w (w.alloc (.cells #[.int .i64 0, .int .i64 0, .int .i64 0, .int .i64 0] 24)) := (Below.refl _ _).alloc (Nat.le_refl _) _
  have H := Lib.hid (h.keep (w' := (w.alloc (.cells #[.int .i64 0, .int .i64 0, .int .i64 0, .int .i64 0] 24))) fun x hx hc i v hv => (U0.cell (World.block_lt_of_cell? _ _ hv)).trans hv)
  have Z0 := Lib.hid (R4.new w 0 0 0 0 24)
  have hs0 : (w.alloc (.cells #[.int .i64 0, .int .i64 0, .int .i64 0, .int .i64 0] 24)).heap.size = w.heap.size + 1 := by simp
  have HS0 := Lib.hid hs0
  have UU := Lib.hid U0
  clear h U0 hs0
  go_enter Try.func19, Try.ntmps19
  go_wp2_with fail
  refine (open_any a len cap zs _ H.out).mono ?_
  rintro e w1 ⟨rfl, hb, hR⟩
  have hb1 := Lib.hid (UU.out.trans (hb.mono (by have := HS0.out; omega)))
  have Z1 := Lib.hid (Z0.out.below hb Z0.out.lt)
  have RR := Lib.hid hR
  rw [HS0.out] at RR ⊢
  clear hb hR Z0 UU H
  go_wp2_with fail
  refine (drrt_any _ _ _ RR.out (by omega)).mono ?_
  rintro e w2 ⟨x, y, z, t, hbd, rfl, hg2, hR2⟩
  have ZZ := Z1.out.kept hg2 (fun e => by have := Option.some.inj e; omega)
  have BB := hb1.out.grown hg2 hb1.out.size (fun j hj => by injection hj with hj; omega)
  have KE := Lib.hid (show R4 ((((w2.setCell ⟨w.heap.size, 0, none⟩ (.int .i64 x)).setCell ⟨w.heap.size, 1, none⟩ (.int .i64 y)).setCell ⟨w.heap.size, 2, none⟩ (.int .i64 z)).setCell ⟨w.heap.size, 3, none⟩ (.int .i64 t)) w.heap.size x y z t ∧
    Below w.heap.size w ((((w2.setCell ⟨w.heap.size, 0, none⟩ (.int .i64 x)).setCell ⟨w.heap.size, 1, none⟩ (.int .i64 y)).setCell ⟨w.heap.size, 2, none⟩ (.int .i64 z)).setCell ⟨w.heap.size, 3, none⟩ (.int .i64 t)) from
    ⟨(((ZZ.set0 x).set1 y).set2 z).set3 t, (((BB.setCell (p := ⟨_, 0, none⟩) (Nat.le_refl _) _).setCell (p := ⟨_, 1, none⟩) (Nat.le_refl _) _).setCell (p := ⟨_, 2, none⟩) (Nat.le_refl _) _).setCell (p := ⟨_, 3, none⟩) (Nat.le_refl _) _⟩)
  obtain ⟨z0, z1, z2, z3, zf⟩ := ZZ
  have zf0 := zf 0
  have zf1 := zf 1
  have zf2 := zf 2
  have zf3 := zf 3
  clear hR2 hg2 BB
  go_wp2_with fail
  generalize (((w2.setCell ⟨w.heap.size, 0, none⟩ (.int .i64 x)).setCell ⟨w.heap.size, 1, none⟩ (.int .i64 y)).setCell ⟨w.heap.size, 2, none⟩ (.int .i64 z)).setCell ⟨w.heap.size, 3, none⟩ (.int .i64 t) = WF at KE ⊢
  obtain ⟨k0, k1, k2, k3, kf⟩ := KE.out.1
  refine bodyPost_ret (v := .agg #[.int .i64 x, .int .i64 y, .int .i64 z, .int .i64 t]) ?hr rfl ?_
  case hr => rw [results_cell_one rfl]; go_simp
  exact ⟨_, _, _, _, hbd, rfl, KE.out.2⟩

set_option maxRecDepth 100000 in
set_option maxHeartbeats 4000000 in
theorem drawPr_any (a : Option Addr) (len cap : Nat) (zs : List Int) (w : World) (h : IsRow .u8 w a len cap zs) :
    Calls Try.prog 23 #[.slice a len cap] w (GotPr w) := by
  have U0 : Below w.heap.size w (w.alloc (.cells #[.int .i64 0, .int .i64 0, .int .i64 0, .int .i64 0] 24)) := (Below.refl _ _).alloc (Nat.le_refl _) _
  have H := Lib.hid (h.keep (w' := (w.alloc (.cells #[.int .i64 0, .int .i64 0, .int .i64 0, .int .i64 0] 24))) fun x hx hc i v hv => (U0.cell (World.block_lt_of_cell? _ _ hv)).trans hv)
  have Z0 := Lib.hid (R4.new w 0 0 0 0 24)
  have hs0 : (w.alloc (.cells #[.int .i64 0, .int .i64 0, .int .i64 0, .int .i64 0] 24)).heap.size = w.heap.size + 1 := by simp
  have HS0 := Lib.hid hs0
  have UU := Lib.hid U0
  clear h U0 hs0
  go_enter Try.func23, Try.ntmps23
  go_wp2_with fail
  refine (open_any a len cap zs _ H.out).mono ?_
  rintro e w1 ⟨rfl, hb, hR⟩
  have hb1 := Lib.hid (UU.out.trans (hb.mono (by have := HS0.out; omega)))
  have Z1 := Lib.hid (Z0.out.below hb Z0.out.lt)
  have RR := Lib.hid hR
  rw [HS0.out] at RR ⊢
  clear hb hR Z0 UU H
  go_wp2_with fail
  refine (drrt_any _ _ _ RR.out (by omega)).mono ?_
  rintro e w2 ⟨x, y, z, t, hbd, rfl, hg2, hR2⟩
  have D := Lib.hid (DQ.start (x := x) (y := y) (z := z) (t := t) (show w.heap.size < w.heap.size + 1 by omega) hb1.out Z1.out RR.out.1 hg2 hR2 24)
  clear hg2 hR2 hb1 Z1 RR
  go_upto_region 3 with fail
  generalize w2.alloc (.cells #[.int .i64 x, .int .i64 y, .int .i64 z, .int .i64 t] 24) = W3 at D ⊢
  generalize w2.heap.size = xb at D ⊢
  generalize w.heap.size + 1 = b at D ⊢
  have Dd := Lib.hid (D.out.below (Below.refl _ _).drew)
  obtain ⟨o0, o1, o2, o3, of⟩ := id Dd.out.o
  have hlo : (1 : Int) ≤ 9 := by omega
  have hhi : (9 : Int) ≤ 1000000 := by omega
  have hkk : 0 + 40 ≤ 1000000 := by omega
  go_region_law (go_simp; (with_reducible refine (pick_rdr _ _ _ _ Dd.out.rd hlo hhi hkk).mono ?_); rintro e w4 ⟨p, hp, rfl, hg8, hR8⟩; have DD := Lib.hid (Dd.out.pick hg8 hR8); have k8a := DD.out.o.c0; have k8b := DD.out.o.c1; have k8c := DD.out.o.c2; have k8d := DD.out.o.c3; have zf0 := DD.out.zer.fz 0; have zf1 := DD.out.zer.fz 1; have zf2 := DD.out.zer.fz 2; have zf3 := DD.out.zer.fz 3; have z0 := DD.out.zer.c0; have z1 := DD.out.zer.c1; have z2 := DD.out.zer.c2; have z3 := DD.out.zer.c3; have hw2 : IntKind.i64.wrap ((p : Int) - 1) = (p : Int) - 1 := IntWalk.i64_in _ (by omega); have KE := Lib.hid DD.out.fin)
  all_goals
    clear k8a k8b k8c k8d z0 z1 z2 z3 zf0 zf1 zf2 zf3 DD Dd o0 o1 o2 o3 of
    go_wp2_with fail
    generalize (((w4.setCell ⟨w.heap.size, 0, none⟩ (.int .i64 x)).setCell ⟨w.heap.size, 1, none⟩ (.int .i64 y)).setCell ⟨w.heap.size, 2, none⟩ (.int .i64 z)).setCell ⟨w.heap.size, 3, none⟩ (.int .i64 t) = WF at KE ⊢
    obtain ⟨k0, k1, k2, k3, kf⟩ := KE.out.1
    refine bodyPost_ret (v := .tuple #[.agg #[.int .i64 x, .int .i64 y, .int .i64 z, .int .i64 t], .int .i64 ((p : Int) - 1)]) ?hr rfl ?_
    case hr => rw [results_cell_tmp1 rfl]; go_simp
    exact ⟨_, _, _, _, _, ⟨hbd, by omega, by omega⟩, rfl, KE.out.2⟩

end Go.Proofs.Ytlhjhdlpejpooaa
