/- The drawn arguments of RegisterTick and RegisterTry. -/
import Derived.Test.YtjabejljgoafiaaDrRg
import Derived.Test.YtjabejljgoafiaaTcMem
import Derived.Test.YtjabejljgoafiaaHp
import Derived.BigRegion
namespace Go.Proofs.Ytjabejljgoafiaa
open Go.RowKit
set_option linter.unusedVariables false
set_option linter.unusedSimpArgs false

theorem results_c_s {fn : Func} {p q : Tmp} {ty : TypeId} (h : fn.results = #[.cell p ty, .tmp q]) (tmps : Array Value) (P : Program) (w : World) :
    (results fn tmps).run P w = ((asAddr (tmps.getD p undef)).run P w).andThen fun a w₁ => ((loadVar ty a).run P w₁).andThen fun v w₂ => .ok (.tuple #[v, tmps.getD q undef]) w₂ := by
  simp only [results, h]
  simp [Sem.run_bind, Result.andThen]
/-- The drawn register stands in a variable of its own. -/
structure DT (w W : World) (b k rb xb : Nat) (n : Int) (s : Value) (l : List Tic) : Prop where
  bel : Below w.heap.size w W
  rd : Rdr W b k
  zer : RgV W rb 0 (.slice none 0 0)
  zf : Soft W rb
  x : RgV W xb n s
  own : OwnTc W w.heap.size s l
  ne : s.ownBlock ≠ none ∧ s.ownBlock ≠ some rb ∧ s.ownBlock ≠ some xb ∧ s.ownBlock ≠ some b
  ord : w.heap.size ≤ rb ∧ rb < b ∧ b < xb
theorem DT.below {w W W' : World} {b k rb xb : Nat} {n : Int} {s : Value} {l : List Tic} (h : DT w W b k rb xb n s l) (hb : Below W.heap.size W W') : DT w W' b k rb xb n s l :=
  ⟨h.bel.trans (hb.mono h.bel.size), h.rd.below hb, h.zer.below hb, h.zf.below hb h.zer.lt, h.x.below hb, h.own.below hb, h.ne, h.ord⟩
theorem DT.pick {w W W' : World} {b k k' rb xb : Nat} {n : Int} {s : Value} {l : List Tic} (h : DT w W b k rb xb n s l) (hg : W.grownBy W' (some b)) (hR : Rdr W' b k') : DT w W' b k' rb xb n s l := by
  obtain ⟨o1, o2, o3⟩ := h.ord
  exact ⟨h.bel.grown hg h.bel.size (fun j hj => by injection hj with hj; omega), hR, h.zer.kept hg (fun e => by have := Option.some.inj e; omega), h.zf.kept hg h.zer.lt (fun e => by have := Option.some.inj e; omega), h.x.kept hg (fun e => by have := Option.some.inj e; omega), World.ownsRow.kept h.own hg (.inr h.ne.2.2.2), h.ne, h.ord⟩
theorem DT.start {w w1 w2 : World} {k : Nat} {n : Int} {s : Value} {l : List Tic} {rb b : Nat} (hrb : w.heap.size ≤ rb) (hb : rb < b) (hbel : Below w.heap.size w w1) (hz : RgV w1 rb 0 (.slice none 0 0)) (hzf : Soft w1 rb) (hs : b < w1.heap.size) (hg : w1.grownBy w2 (some b)) (hR : Rdr w2 b k) (ho : OwnTc w2 w1.heap.size s l) (hn : s.ownBlock ≠ none) (T : TypeId) :
    DT w (w2.alloc (.cells #[.int .i64 n, s] T)) b k rb w2.heap.size n s l := by
  have U : Below w2.heap.size w2 (w2.alloc (.cells #[.int .i64 n, s] T)) := (Below.refl _ _).alloc (Nat.le_refl _) _
  have n1 : some rb ≠ some b := fun e => by have := Option.some.inj e; omega
  have Z := hz.kept hg n1
  have hb2 : Below w.heap.size w w2 := hbel.grown hg hbel.size (fun j hj => by injection hj with hj; omega)
  have hs2 := hg.size
  exact ⟨hb2.trans (U.mono hb2.size), hR.below U, Z.below U, (hzf.kept hg hz.lt n1).below U Z.lt, RgV.new w2 n s T, (OwnTc.lower ho hbel.size).below U, ⟨hn, fun e => by have := (World.ownsRow.lt ho _ e).1; omega, fun e => by have := (World.ownsRow.lt ho _ e).2; omega, fun e => by have := (World.ownsRow.lt ho _ e).1; omega⟩, ⟨by omega, by omega, by omega⟩⟩

def GotTick (w : World) (e : Ending) (w' : World) : Prop :=
  ∃ (n t : Int) (s : Value) (l : List Tic), e = .returned (.tuple #[.agg #[.int .i64 n, s], .int .i64 t]) ∧ (-1 ≤ n ∧ n ≤ 1000) ∧ (-2000 ≤ t ∧ t ≤ 2000) ∧ l.length ≤ 9 ∧ OwnTc w' w.heap.size s l ∧ s.ownBlock ≠ none ∧ Below w.heap.size w w'
set_option maxRecDepth 100000 in
set_option maxHeartbeats 4000000 in
theorem drtick_any (a : Option Addr) (len cap : Nat) (zs : List Int) (w : World) (h : IsRow .u8 w a len cap zs) :
    Calls Try.prog 21 #[.slice a len cap] w (GotTick w) := by
  have U0 : Below w.heap.size w (w.alloc (.cells #[.int .i64 0, .slice none 0 0] 25)) := (Below.refl _ _).alloc (Nat.le_refl _) _
  have H := Lib.hid (h.keep (w' := w.alloc (.cells #[.int .i64 0, .slice none 0 0] 25)) fun x hx hc i v hv => cell?_alloc_old _ hv)
  have Z0 := Lib.hid (RgV.new w 0 (.slice none 0 0) 25)
  have F0 := Lib.hid (Soft.new w #[.int .i64 0, .slice none 0 0] 25)
  have hs0 : (w.alloc (.cells #[.int .i64 0, .slice none 0 0] 25)).heap.size = w.heap.size + 1 := by simp
  have HS0 := Lib.hid hs0
  have UU := Lib.hid U0
  clear h U0 hs0
  go_enter Try.func21, Try.ntmps21
  go_wp2_with fail
  refine (open_any a len cap zs _ H.out).mono ?_
  rintro e w1 ⟨rfl, hb, hR⟩
  have hb1 := Lib.hid (UU.out.trans (hb.mono (by have := HS0.out; omega)))
  have Z1 := Lib.hid (Z0.out.below hb)
  have F1 := Lib.hid (F0.out.below hb Z0.out.lt)
  have RR := Lib.hid hR
  rw [HS0.out] at RR ⊢
  clear hb hR
  go_wp2_with fail
  refine (drrg_any _ _ _ RR.out (by omega)).mono ?_
  rintro e w2 ⟨n, s, l, rfl, hn, hl, hO, hnn, hg2, hR2⟩
  have D := Lib.hid (DT.start (n := n) (Nat.le_refl _) (show w.heap.size < w.heap.size + 1 by omega) hb1.out Z1.out F1.out RR.out.1 hg2 hR2 hO hnn 25)
  obtain ⟨ax, cx, rfl⟩ := ownsRow_shape hO
  clear hO hnn hg2 hR2
  go_upto_region 3 with fail
  generalize w2.alloc (.cells #[.int .i64 n, .slice ax l.length cx] 25) = W3 at D ⊢
  generalize w2.heap.size = xb at D ⊢
  generalize w.heap.size + 1 = b at D ⊢
  obtain ⟨q0, q1⟩ := D.out.x
  have Dd := Lib.hid (D.out.below (Below.refl _ _).drew)
  have kd := And.intro Dd.out.x.c0 Dd.out.x.c1
  have hlo : (1 : Int) ≤ 14 := by omega
  have hhi : (14 : Int) ≤ 1000000 := by omega
  have hk : 0 + 60 ≤ 1000000 := by omega
  go_region_held3 (fun w' => w'.cell? ⟨xb, 0, none⟩ = some (.int .i64 n) ∧ w'.cell? ⟨xb, 1, none⟩ = some (.slice ax l.length cx)) (with_reducible first | assumption | exact kd | exact k8 | exact k9)
    ((go_at_call 34; (with_reducible refine (pick_rdr _ _ _ _ Dd.out.rd hlo hhi hk).mono ?_); rintro e w8 ⟨x, hx, rfl, hg8, hR8⟩; have D8 := Lib.hid (Dd.out.pick hg8 hR8); have k8 := And.intro D8.out.x.c0 D8.out.x.c1; have hw1 : IntKind.i64.wrap (n + (x : Int)) = n + (x : Int) := IntWalk.i64_in _ (by omega); have hw2 : IntKind.i64.wrap (n + (x : Int) - 1) = n + (x : Int) - 1 := IntWalk.i64_in _ (by omega); have z0 := D8.out.zer.c0; have z1 := D8.out.zer.c1; have f0 := D8.out.zf 0; have f1 := D8.out.zf 1; have X9 := (D8.out.x.far (c := w.heap.size) (i := 0) (v := .int .i64 n) (by have := D8.out.ord; omega)).far (c := w.heap.size) (i := 1) (v := .slice ax l.length cx) (by have := D8.out.ord; omega); have k9 := And.intro X9.c0 X9.c1))
  all_goals
    have KE := Lib.hid (reg_end (m := n) D8.out.bel D8.out.zer D8.out.own D8.out.ne.2.1 (Nat.le_refl _))
    have hne := Lib.hid D8.out.ne.1
    clear k8 k9 X9 z0 z1 f0 f1 D8 Dd kd q0 q1
    go_wp2_with fail
    generalize (w8.setCell ⟨w.heap.size, 0, none⟩ (.int .i64 n)).setCell ⟨w.heap.size, 1, none⟩ (.slice ax l.length cx) = WF at KE ⊢
    obtain ⟨k0, k1⟩ := KE.out.1
    refine bodyPost_ret (v := .tuple #[.agg #[.int .i64 n, .slice ax l.length cx], .int .i64 (n + (x : Int) - 1)]) ?_ rfl ?_
    · rw [results_c_s rfl]; go_simp
    · exact ⟨n, _, _, l, rfl, hn, by omega, hl, KE.out.2.2, hne.out, KE.out.2.1⟩

theorem results_c_c {fn : Func} {p q : Tmp} {ty tz : TypeId} (h : fn.results = #[.cell p ty, .cell q tz]) (tmps : Array Value) (P : Program) (w : World) :
    (results fn tmps).run P w = ((asAddr (tmps.getD p undef)).run P w).andThen fun a w₁ => ((loadVar ty a).run P w₁).andThen fun v w₂ => ((asAddr (tmps.getD q undef)).run P w₂).andThen fun a' w₃ => ((loadVar tz a').run P w₃).andThen fun v' w₄ => .ok (.tuple #[v, v']) w₄ := by
  simp only [results, h]
  simp [Sem.run_bind, Result.andThen]
/-- .. and the drawn ticket. -/
structure DU (w W : World) (b k rb qb xb tb : Nat) (n : Int) (s : Value) (l : List Tic) (x y : Int) : Prop where
  d : DT w W b k rb xb n s l
  q : RgV W qb 0 (.int .i64 0)
  qf : Soft W qb
  t : RgV W tb x (.int .i64 y)
  tf : Soft W tb
  ne : s.ownBlock ≠ some qb ∧ s.ownBlock ≠ some tb
  ord : rb < qb ∧ qb < b ∧ xb < tb
theorem DU.below {w W W' : World} {b k rb qb xb tb : Nat} {n : Int} {s : Value} {l : List Tic} {x y : Int} (h : DU w W b k rb qb xb tb n s l x y) (hb : Below W.heap.size W W') : DU w W' b k rb qb xb tb n s l x y :=
  ⟨h.d.below hb, h.q.below hb, h.qf.below hb h.q.lt, h.t.below hb, h.tf.below hb h.t.lt, h.ne, h.ord⟩
theorem DU.pick {w W W' : World} {b k k' rb qb xb tb : Nat} {n : Int} {s : Value} {l : List Tic} {x y : Int} (h : DU w W b k rb qb xb tb n s l x y) (hg : W.grownBy W' (some b)) (hR : Rdr W' b k') : DU w W' b k' rb qb xb tb n s l x y := by
  have o := h.ord
  have o2 := h.d.ord
  have n1 : some qb ≠ some b := fun e => by have := Option.some.inj e; omega
  have n2 : some tb ≠ some b := fun e => by have := Option.some.inj e; omega
  exact ⟨h.d.pick hg hR, h.q.kept hg n1, h.qf.kept hg h.q.lt n1, h.t.kept hg n2, h.tf.kept hg h.t.lt n2, h.ne, h.ord⟩
/-- The ticket's variable is written. -/
theorem DU.put {w W : World} {b k rb qb xb tb : Nat} {n : Int} {s : Value} {l : List Tic} {x y : Int} (h : DU w W b k rb qb xb tb n s l x y) (x' y' : Int) : DU w ((W.setCell ⟨tb, 0, none⟩ (.int .i64 x')).setCell ⟨tb, 1, none⟩ (.int .i64 y')) b k rb qb xb tb n s l x' y' := by
  have o := h.ord
  have o2 := h.d.ord
  have hb : Below w.heap.size w ((W.setCell ⟨tb, 0, none⟩ (.int .i64 x')).setCell ⟨tb, 1, none⟩ (.int .i64 y')) := (h.d.bel.setCell (show w.heap.size ≤ tb by omega) _).setCell (show w.heap.size ≤ tb by omega) _
  exact ⟨⟨hb, (h.d.rd.grown (Lib.grownBy_setCell _ _ _ _) (fun r e => by have := Option.some.inj e; omega)).grown (Lib.grownBy_setCell _ _ _ _) (fun r e => by have := Option.some.inj e; omega), (h.d.zer.far (by omega)).far (by omega), (h.d.zf.set _ _).set _ _, (h.d.x.far (by omega)).far (by omega), OwnTc.far (OwnTc.far h.d.own h.ne.2) h.ne.2, h.d.ne, h.d.ord⟩, (h.q.far (by omega)).far (by omega), (h.qf.set _ _).set _ _, (h.t.set0 x').set1 _, (h.tf.set _ _).set _ _, h.ne, h.ord⟩
theorem DU.fin {w W : World} {b k rb qb xb tb : Nat} {n : Int} {s : Value} {l : List Tic} {x y : Int} (h : DU w W b k rb qb xb tb n s l x y) :
    RgV ((((W.setCell ⟨rb, 0, none⟩ (.int .i64 n)).setCell ⟨rb, 1, none⟩ s).setCell ⟨qb, 0, none⟩ (.int .i64 x)).setCell ⟨qb, 1, none⟩ (.int .i64 y)) rb n s ∧
    RgV ((((W.setCell ⟨rb, 0, none⟩ (.int .i64 n)).setCell ⟨rb, 1, none⟩ s).setCell ⟨qb, 0, none⟩ (.int .i64 x)).setCell ⟨qb, 1, none⟩ (.int .i64 y)) qb x (.int .i64 y) ∧
    Below w.heap.size w ((((W.setCell ⟨rb, 0, none⟩ (.int .i64 n)).setCell ⟨rb, 1, none⟩ s).setCell ⟨qb, 0, none⟩ (.int .i64 x)).setCell ⟨qb, 1, none⟩ (.int .i64 y)) ∧
    OwnTc ((((W.setCell ⟨rb, 0, none⟩ (.int .i64 n)).setCell ⟨rb, 1, none⟩ s).setCell ⟨qb, 0, none⟩ (.int .i64 x)).setCell ⟨qb, 1, none⟩ (.int .i64 y)) w.heap.size s l := by
  have o := h.ord
  have o2 := h.d.ord
  obtain ⟨k1, k2, k3⟩ := reg_end (m := n) h.d.bel h.d.zer h.d.own h.d.ne.2.1 o2.1
  exact ⟨(k1.far (by omega)).far (by omega), (((h.q.far (by omega)).far (by omega)).set0 x).set1 _, (k2.setCell (show w.heap.size ≤ qb by omega) _).setCell (show w.heap.size ≤ qb by omega) _, OwnTc.far (OwnTc.far k3 h.ne.1) h.ne.1⟩

def GotTry (w : World) (e : Ending) (w' : World) : Prop :=
  ∃ (n x y : Int) (s : Value) (l : List Tic), e = .returned (.tuple #[.agg #[.int .i64 n, s], .agg #[.int .i64 x, .int .i64 y]]) ∧ (-1 ≤ n ∧ n ≤ 1000) ∧ l.length ≤ 9 ∧ OwnTc w' w.heap.size s l ∧ s.ownBlock ≠ none ∧ Below w.heap.size w w'
set_option maxRecDepth 100000 in
set_option maxHeartbeats 8000000 in
theorem drtry_any (a : Option Addr) (len cap : Nat) (zs : List Int) (w : World) (h : IsRow .u8 w a len cap zs) :
    Calls Try.prog 15 #[.slice a len cap] w (GotTry w) := by
  have e1 : (w.alloc (.cells #[.int .i64 0, .slice none 0 0] 25)).heap.size = w.heap.size + 1 := by simp
  have U0 : Below w.heap.size w ((w.alloc (.cells #[.int .i64 0, .slice none 0 0] 25)).alloc (.cells #[.int .i64 0, .int .i64 0] 27)) := ((Below.refl _ _).alloc (Nat.le_refl _) _).alloc (by omega) _
  have U1 : Below (w.alloc (.cells #[.int .i64 0, .slice none 0 0] 25)).heap.size (w.alloc (.cells #[.int .i64 0, .slice none 0 0] 25)) ((w.alloc (.cells #[.int .i64 0, .slice none 0 0] 25)).alloc (.cells #[.int .i64 0, .int .i64 0] 27)) := (Below.refl _ _).alloc (Nat.le_refl _) _
  have H := Lib.hid (h.keep (w' := ((w.alloc (.cells #[.int .i64 0, .slice none 0 0] 25)).alloc (.cells #[.int .i64 0, .int .i64 0] 27))) fun x hx hc i v hv => cell?_alloc_old _ (cell?_alloc_old _ hv))
  have Z0 := Lib.hid ((RgV.new w 0 (.slice none 0 0) 25).below U1)
  have F0 := Lib.hid ((Soft.new w #[.int .i64 0, .slice none 0 0] 25).below U1 (by omega))
  have Q0 : Hid (RgV ((w.alloc (.cells #[.int .i64 0, .slice none 0 0] 25)).alloc (.cells #[.int .i64 0, .int .i64 0] 27)) (w.heap.size + 1) 0 (.int .i64 0)) := Lib.hid (by rw [← e1]; exact RgV.new _ 0 _ _)
  have G0 : Hid (Soft ((w.alloc (.cells #[.int .i64 0, .slice none 0 0] 25)).alloc (.cells #[.int .i64 0, .int .i64 0] 27)) (w.heap.size + 1)) := Lib.hid (by rw [← e1]; exact Soft.new _ _ _)
  have hs0 : ((w.alloc (.cells #[.int .i64 0, .slice none 0 0] 25)).alloc (.cells #[.int .i64 0, .int .i64 0] 27)).heap.size = w.heap.size + 1 + 1 := by simp
  have HS0 := Lib.hid hs0
  have UU := Lib.hid U0
  clear h U0 hs0 e1 U1
  go_enter Try.func15, Try.ntmps15
  go_wp2_with fail
  refine (open_any a len cap zs _ H.out).mono ?_
  rintro e w1 ⟨rfl, hb, hR⟩
  have hb1 := Lib.hid (UU.out.trans (hb.mono (by have := HS0.out; omega)))
  have Z1 := Lib.hid (Z0.out.below hb)
  have F1 := Lib.hid (F0.out.below hb Z0.out.lt)
  have Q1 := Lib.hid (Q0.out.below hb)
  have G1 := Lib.hid (G0.out.below hb Q0.out.lt)
  have RR := Lib.hid hR
  rw [HS0.out] at RR ⊢
  clear hb hR Z0 F0 Q0 G0 UU H
  go_wp2_with fail
  refine (drrg_any _ _ _ RR.out (by omega)).mono ?_
  rintro e w2 ⟨n, s, l, rfl, hn, hl, hO, hnn, hg2, hR2⟩
  have D := Lib.hid (DT.start (n := n) (Nat.le_refl _) (by omega) hb1.out Z1.out F1.out RR.out.1 hg2 hR2 hO hnn 25)
  have n1 : some (w.heap.size + 1) ≠ some (w.heap.size + 1 + 1) := fun e => by have := Option.some.inj e; omega
  have U2 : Below w2.heap.size w2 (w2.alloc (.cells #[.int .i64 n, s] 25)) := (Below.refl _ _).alloc (Nat.le_refl _) _
  have Q2 := Lib.hid ((Q1.out.kept hg2 n1).below U2)
  have G2 := Lib.hid ((G1.out.kept hg2 Q1.out.lt n1).below U2 (Q1.out.kept hg2 n1).lt)
  have hsq : Hid (s.ownBlock ≠ some (w.heap.size + 1)) := Lib.hid fun e => by have := (World.ownsRow.lt hO _ e).1; have := Q1.out.lt; omega
  obtain ⟨ax, cx, rfl⟩ := ownsRow_shape hO
  clear hO hnn hg2 hR2 n1 U2 Q1 G1 Z1 F1 hb1 RR
  go_upto_region 3 with fail
  generalize w2.alloc (.cells #[.int .i64 n, .slice ax l.length cx] 25) = W3 at D Q2 G2 ⊢
  generalize w2.heap.size = xb at D ⊢
  obtain ⟨qb, hqb⟩ : ∃ qb, qb = w.heap.size + 1 := ⟨_, rfl⟩
  obtain ⟨b, hbe⟩ : ∃ b, b = w.heap.size + 1 + 1 := ⟨_, rfl⟩
  have HO : Hid (w.heap.size < qb ∧ qb < b) := Lib.hid (by omega)
  rw [← hbe] at D ⊢
  rw [← hqb] at Q2 G2 hsq ⊢
  clear hqb hbe
  obtain ⟨q0, q1⟩ := D.out.x
  go_wp2_with fail
  refine (drtic_any b _ n _ D.out.rd (by omega) (by omega)).mono ?_
  rintro e w4 ⟨x, y, hx, hy, rfl, hg4, hR4⟩
  have D4 := D.out.pick hg4 hR4
  have nq : some qb ≠ some b := fun e => by have := Option.some.inj e; have := HO.out; omega
  have U4 : Below w4.heap.size w4 (w4.alloc (.cells #[.int .i64 x, .int .i64 y] 27)) := (Below.refl _ _).alloc (Nat.le_refl _) _
  have DU4 : Hid (DU w (w4.alloc (.cells #[.int .i64 x, .int .i64 y] 27)) b _ w.heap.size qb xb w4.heap.size n (.slice ax l.length cx) l x y) := Lib.hid ⟨D4.below U4, (Q2.out.kept hg4 nq).below U4, (G2.out.kept hg4 Q2.out.lt nq).below U4 (Q2.out.kept hg4 nq).lt, RgV.new w4 x _ _, Soft.new w4 _ _, ⟨hsq.out, fun e => by have := (World.ownsRow.lt D4.own _ e).2; omega⟩, ⟨HO.out.1, HO.out.2, by have := D4.x.lt; omega⟩⟩
  clear D4 nq U4 hg4 hR4 q0 q1 D Q2 G2
  go_upto_region 4 with fail
  generalize w4.alloc (.cells #[.int .i64 x, .int .i64 y] 27) = W4 at DU4 ⊢
  generalize w4.heap.size = tb at DU4 ⊢
  go_wp2_with fail
  refine (pick_rdr b _ _ _ DU4.out.d.rd (by omega) (by omega) (by omega)).mono ?_
  rintro e w5 ⟨c, hc, rfl, hg5, hR5⟩
  have D5 := Lib.hid (DU4.out.pick hg5 hR5)
  clear hg5 hR5 DU4
  obtain ⟨q0, q1⟩ := D5.out.d.x
  by_cases hcc : c = 0 ∧ 0 < l.length
  · obtain ⟨hc0, hl0⟩ := hcc
    have hb0 : ((c : Int) == 0) = true := by rw [hc0]; rfl
    have hl0' : (0 : Int) < (l.length : Int) := by omega
    have hdl := decide_eq_true hl0'
    have hdl2 := decide_eq_true hl0
    clear hc0
    obtain ⟨g, rfl⟩ := OwnTc.sl D5.out.d.own (by rintro rfl; simp at hl0)
    go_upto_region 5 with fail
    clear q0 q1
    have Dd := Lib.hid (D5.out.below (Below.refl _ _).drew)
    have kd := And.intro Dd.out.d.x.c0 Dd.out.d.x.c1
    have hlo : (1 : Int) ≤ (l.length : Int) := by omega
    have hhi : (l.length : Int) ≤ 1000000 := by omega
    have hk : 0 + 60 + 3 + 1 ≤ 1000000 := by omega
    have q0 := D5.out.d.x.c0
    have q1 := D5.out.d.x.c1
    go_region_law (go_simp; (with_reducible refine (pick_rdr _ _ _ _ Dd.out.d.rd hlo hhi hk).mono ?_); rintro e w8 ⟨z, hz, rfl, hg8, hR8⟩; have D8 := Lib.hid (Dd.out.pick hg8 hR8); have k8 := D8.out.d.x.c0; have k8' := D8.out.d.x.c1; obtain ⟨c0, c1⟩ := kl_cell D8.out.d.own rfl z (by omega); obtain ⟨x', hx'⟩ : ∃ x', (l.getD z (0, 0)).1 = x' := ⟨_, rfl⟩; obtain ⟨y', hy'⟩ : ∃ y', kl l z = y' := ⟨_, rfl⟩; rw [hx'] at c0; rw [hy'] at c1; clear hx' hy'; have t0 := D8.out.t.c0; have t1 := D8.out.t.c1; have f0 := D8.out.tf 0; have f1 := D8.out.tf 1; have D9 := Lib.hid (D8.out.put x' y'))
    all_goals
      go_upto_region 6 with fail
      generalize (w8.setCell ⟨tb, 0, none⟩ (.int .i64 x')).setCell ⟨tb, 1, none⟩ (.int .i64 y') = W9 at D9 ⊢
      clear k8 k8' c0 c1 t0 t1 f0 f1 D8 Dd D5 kd q0 q1
      have KE := Lib.hid D9.out.fin
      have hne := Lib.hid D9.out.d.ne.1
      obtain ⟨x0, x1⟩ := D9.out.d.x
      obtain ⟨t0, t1⟩ := D9.out.t
      obtain ⟨z0, z1⟩ := D9.out.d.zer
      obtain ⟨y0, y1⟩ := D9.out.q
      have f0 := D9.out.d.zf 0
      have f1 := D9.out.d.zf 1
      have g0 := D9.out.qf 0
      have g1 := D9.out.qf 1
      have o1 : qb ≠ w.heap.size := by have := D9.out.ord; omega
      have o2 : xb ≠ w.heap.size := by have := D9.out.ord; have := D9.out.d.ord; omega
      have o3 : tb ≠ w.heap.size := by have := D9.out.ord; have := D9.out.d.ord; omega
      have o4 : xb ≠ qb := by have := D9.out.ord; have := D9.out.d.ord; omega
      have o5 : tb ≠ qb := by have := D9.out.ord; have := D9.out.d.ord; omega
      go_wp2_with fail
      go_region
      all_goals
        have KE' := Lib.hid (KE.out.2.2.1.drew)
        have KO' := Lib.hid (KE.out.2.2.2.below (Below.refl _ _).drew)
        have KR' := Lib.hid (KE.out.1.below (Below.refl _ _).drew)
        have KQ' := Lib.hid (KE.out.2.1.below (Below.refl _ _).drew)
        clear KE z0 z1 y0 y1 f0 f1 g0 g1 x0 x1 t0 t1
        generalize ((((W9.setCell ⟨w.heap.size, 0, none⟩ (.int .i64 n)).setCell ⟨w.heap.size, 1, none⟩ (.slice (some ⟨g, 0, none⟩) l.length cx)).setCell ⟨qb, 0, none⟩ (.int .i64 x')).setCell ⟨qb, 1, none⟩ (.int .i64 y')).drew = WF at KE' KO' KR' KQ' ⊢
        obtain ⟨k0, k1⟩ := KR'.out
        obtain ⟨k2, k3⟩ := KQ'.out
        go_wp2_with fail
        refine bodyPost_ret (v := .tuple #[.agg #[.int .i64 n, (.slice (some ⟨g, 0, none⟩) l.length cx)], .agg #[.int .i64 x', .int .i64 y']]) ?_ rfl ?_
        · rw [results_c_c rfl]; go_simp
        · exact ⟨n, x', y', _, l, rfl, hn, hl, KO'.out, hne.out, KE'.out⟩
  · by_cases hc0 : c = 0
    · have hl0 : ¬ 0 < l.length := fun h => hcc ⟨hc0, h⟩
      have hb0 : ((c : Int) == 0) = true := by rw [hc0]; rfl
      have hl0' : ¬ (0 : Int) < (l.length : Int) := by omega
      have hdl := decide_eq_false hl0'
      have hdl2 := decide_eq_false hl0
      clear hc0 hcc q0 q1
      have KE := Lib.hid D5.out.fin
      have hne := Lib.hid D5.out.d.ne.1
      obtain ⟨x0, x1⟩ := D5.out.d.x
      obtain ⟨t0, t1⟩ := D5.out.t
      obtain ⟨z0, z1⟩ := D5.out.d.zer
      obtain ⟨y0, y1⟩ := D5.out.q
      have f0 := D5.out.d.zf 0
      have f1 := D5.out.d.zf 1
      have g0 := D5.out.qf 0
      have g1 := D5.out.qf 1
      have o1 : qb ≠ w.heap.size := by have := D5.out.ord; omega
      have o2 : xb ≠ w.heap.size := by have := D5.out.ord; have := D5.out.d.ord; omega
      have o3 : tb ≠ w.heap.size := by have := D5.out.ord; have := D5.out.d.ord; omega
      have o4 : xb ≠ qb := by have := D5.out.ord; have := D5.out.d.ord; omega
      have o5 : tb ≠ qb := by have := D5.out.ord; have := D5.out.d.ord; omega
      go_wp2_with fail
      go_region
      all_goals
        have KE' := Lib.hid (KE.out.2.2.1.drew)
        have KO' := Lib.hid (KE.out.2.2.2.below (Below.refl _ _).drew)
        have KR' := Lib.hid (KE.out.1.below (Below.refl _ _).drew)
        have KQ' := Lib.hid (KE.out.2.1.below (Below.refl _ _).drew)
        clear KE z0 z1 y0 y1 f0 f1 g0 g1 x0 x1 t0 t1
        generalize ((((w5.setCell ⟨w.heap.size, 0, none⟩ (.int .i64 n)).setCell ⟨w.heap.size, 1, none⟩ (.slice ax l.length cx)).setCell ⟨qb, 0, none⟩ (.int .i64 x)).setCell ⟨qb, 1, none⟩ (.int .i64 y)).drew = WF at KE' KO' KR' KQ' ⊢
        obtain ⟨k0, k1⟩ := KR'.out
        obtain ⟨k2, k3⟩ := KQ'.out
        go_wp2_with fail
        refine bodyPost_ret (v := .tuple #[.agg #[.int .i64 n, (.slice ax l.length cx)], .agg #[.int .i64 x, .int .i64 y]]) ?_ rfl ?_
        · rw [results_c_c rfl]; go_simp
        · exact ⟨n, x, y, _, l, rfl, hn, hl, KO'.out, hne.out, KE'.out⟩
    · have hb0 : ((c : Int) == 0) = false := by rw [beq_eq_false_iff_ne]; omega
      clear hc0 hcc q0 q1
      have KE := Lib.hid D5.out.fin
      have hne := Lib.hid D5.out.d.ne.1
      obtain ⟨x0, x1⟩ := D5.out.d.x
      obtain ⟨t0, t1⟩ := D5.out.t
      obtain ⟨z0, z1⟩ := D5.out.d.zer
      obtain ⟨y0, y1⟩ := D5.out.q
      have f0 := D5.out.d.zf 0
      have f1 := D5.out.d.zf 1
      have g0 := D5.out.qf 0
      have g1 := D5.out.qf 1
      have o1 : qb ≠ w.heap.size := by have := D5.out.ord; omega
      have o2 : xb ≠ w.heap.size := by have := D5.out.ord; have := D5.out.d.ord; omega
      have o3 : tb ≠ w.heap.size := by have := D5.out.ord; have := D5.out.d.ord; omega
      have o4 : xb ≠ qb := by have := D5.out.ord; have := D5.out.d.ord; omega
      have o5 : tb ≠ qb := by have := D5.out.ord; have := D5.out.d.ord; omega
      go_wp2_with fail
      go_region
      all_goals
        have KE' := Lib.hid (KE.out.2.2.1.drew)
        have KO' := Lib.hid (KE.out.2.2.2.below (Below.refl _ _).drew)
        have KR' := Lib.hid (KE.out.1.below (Below.refl _ _).drew)
        have KQ' := Lib.hid (KE.out.2.1.below (Below.refl _ _).drew)
        clear KE z0 z1 y0 y1 f0 f1 g0 g1 x0 x1 t0 t1
        generalize ((((w5.setCell ⟨w.heap.size, 0, none⟩ (.int .i64 n)).setCell ⟨w.heap.size, 1, none⟩ (.slice ax l.length cx)).setCell ⟨qb, 0, none⟩ (.int .i64 x)).setCell ⟨qb, 1, none⟩ (.int .i64 y)).drew = WF at KE' KO' KR' KQ' ⊢
        obtain ⟨k0, k1⟩ := KR'.out
        obtain ⟨k2, k3⟩ := KQ'.out
        go_wp2_with fail
        refine bodyPost_ret (v := .tuple #[.agg #[.int .i64 n, (.slice ax l.length cx)], .agg #[.int .i64 x, .int .i64 y]]) ?_ rfl ?_
        · rw [results_c_c rfl]; go_simp
        · exact ⟨n, x, y, _, l, rfl, hn, hl, KO'.out, hne.out, KE'.out⟩

end Go.Proofs.Ytjabejljgoafiaa
