/- The drawn arguments of TokenAccept. -/
import Derived.Test.YtbmlckhjjfipbaaDoorTk3
import Derived.Test.YtbmlckhjjfipbaaDoorDrTk
import Derived.Deep.DeepCutAuto
import Derived.Deep.RegionWith
import Derived.BigRegion
namespace Go.Proofs.YtbmlckhjjfipbaaDoor
open Go.RowKit
set_option linter.unusedVariables false
set_option linter.unusedSimpArgs false

def GotAc (w : World) (e : Ending) (w' : World) : Prop :=
  ∃ s x y z a n : Int, ((-1 ≤ s ∧ s ≤ 98) ∧ (-1 ≤ a ∧ a ≤ 100) ∧ (-10 ≤ y ∧ y ≤ 2000) ∧ -2 ≤ n ∧ n ≤ 1010) ∧ e = .returned (.tuple #[.int .i64 s, .agg #[.int .i64 x, .int .i64 y, .int .i64 z], .int .i64 a, .int .i64 n]) ∧ Below w.heap.size w w'

/-- Where the draw stands ahead of the token's variable: the reader, the result's block. -/
structure Dw0 (w W : World) (rd k : Nat) : Prop where
  rdr : Rdr W rd k
  bel : Below w.heap.size w W
  res : Tk3 W w.heap.size 0 0 0
  rf : ∀ i, W.frozen? ⟨w.heap.size, i, none⟩ = false
  lt : w.heap.size < rd
theorem Dw0.pick {w W W' : World} {rd k : Nat} (h : Dw0 w W rd k) (hg : W.grownBy W' (some rd)) (hR : Rdr W' rd (k + 1)) : Dw0 w W' rd (k + 1) := by
  have hne : some w.heap.size ≠ some rd := fun e => by injection e with e; have := h.lt; omega
  refine ⟨hR, h.bel.grown hg h.bel.size (fun j hj => by injection hj with hj; have := h.lt; omega), ⟨hg.cell h.res.c0 hne, hg.cell h.res.c1 hne, hg.cell h.res.c2 hne⟩, fun i => ?_, h.lt⟩
  rw [hg.frozen_far ⟨w.heap.size, i, none⟩ h.res.lt hne]; exact h.rf i
theorem Dw0.below {w W W' : World} {rd k : Nat} (h : Dw0 w W rd k) (hb : Below W.heap.size W W') : Dw0 w W' rd k :=
  ⟨h.rdr.below hb, h.bel.trans (hb.mono h.bel.size), h.res.below hb, fun i => (hb.frozen (p := ⟨w.heap.size, i, none⟩) h.res.lt).trans (h.rf i), h.lt⟩
/-- .. and behind it. -/
structure Dw (w W : World) (rd k tb : Nat) (x y z : Int) : Prop where
  d : Dw0 w W rd k
  tok : Tk3 W tb x y z
  tf : ∀ i, W.frozen? ⟨tb, i, none⟩ = false
  lt : rd < tb
theorem Dw.new {w W : World} {rd k : Nat} (h : Dw0 w W rd k) (x y z : Int) : Dw w (W.alloc (.cells #[.int .i64 x, .int .i64 y, .int .i64 z] 26)) rd k W.heap.size x y z :=
  ⟨h.below ((Below.refl _ _).alloc (Nat.le_refl _) _), Tk3.new W x y z 26, fun i => World.frozen?_alloc_at _ _ _ i rfl, h.rdr.1⟩
theorem Dw.pick {w W W' : World} {rd k tb : Nat} {x y z : Int} (h : Dw w W rd k tb x y z) (hg : W.grownBy W' (some rd)) (hR : Rdr W' rd (k + 1)) : Dw w W' rd (k + 1) tb x y z := by
  have hne : some tb ≠ some rd := fun e => by injection e with e; have := h.lt; omega
  refine ⟨h.d.pick hg hR, ⟨hg.cell h.tok.c0 hne, hg.cell h.tok.c1 hne, hg.cell h.tok.c2 hne⟩, fun i => ?_, h.lt⟩
  rw [hg.frozen_far ⟨tb, i, none⟩ h.tok.lt hne]; exact h.tf i
theorem Dw.below {w W W' : World} {rd k tb : Nat} {x y z : Int} (h : Dw w W rd k tb x y z) (hb : Below W.heap.size W W') : Dw w W' rd k tb x y z :=
  ⟨h.d.below hb, h.tok.below hb, fun i => (hb.frozen (p := ⟨tb, i, none⟩) h.tok.lt).trans (h.tf i), h.lt⟩

theorem Dw.set2 {w W : World} {rd k tb : Nat} {x y z : Int} (h : Dw w W rd k tb x y z) (v : Int) : Dw w (W.setCell ⟨tb, 2, none⟩ (.int .i64 v)) rd k tb x y v := by
  have hne : tb ≠ w.heap.size := by have := h.lt; have := h.d.lt; omega
  have hg : W.grownBy (W.setCell ⟨tb, 2, none⟩ (.int .i64 v)) (some tb) := Lib.grownBy_setCell W tb 2 _
  exact ⟨⟨h.d.rdr.grown hg (fun r e => by injection e with e; have := h.lt; omega), h.d.bel.setCell (by have := h.lt; have := h.d.lt; show w.heap.size ≤ tb; omega) _, h.d.res.far hne, fun i => by rw [World.frozen?_setCell]; exact h.d.rf i, h.d.lt⟩, h.tok.set2 v, fun i => by rw [World.frozen?_setCell]; exact h.tf i, h.lt⟩
theorem Dw.set1 {w W : World} {rd k tb : Nat} {x y z : Int} (h : Dw w W rd k tb x y z) (v : Int) : Dw w (W.setCell ⟨tb, 1, none⟩ (.int .i64 v)) rd k tb x v z := by
  have hne : tb ≠ w.heap.size := by have := h.lt; have := h.d.lt; omega
  have hg : W.grownBy (W.setCell ⟨tb, 1, none⟩ (.int .i64 v)) (some tb) := Lib.grownBy_setCell W tb 1 _
  exact ⟨⟨h.d.rdr.grown hg (fun r e => by injection e with e; have := h.lt; omega), h.d.bel.setCell (by have := h.lt; have := h.d.lt; show w.heap.size ≤ tb; omega) _, h.d.res.far hne, fun i => by rw [World.frozen?_setCell]; exact h.d.rf i, h.d.lt⟩, h.tok.set1 v, fun i => by rw [World.frozen?_setCell]; exact h.tf i, h.lt⟩
theorem results_s_c_s_s {fn : Func} {p q r u : Tmp} {ty : TypeId} (h : fn.results = #[.tmp p, .cell q ty, .tmp r, .tmp u]) (tmps : Array Value) (P : Program) (w : World) :
    (results fn tmps).run P w = ((asAddr (tmps.getD q undef)).run P w).andThen fun a w₁ => ((loadVar ty a).run P w₁).andThen fun v w₂ => .ok (.tuple #[tmps.getD p undef, v, tmps.getD r undef, tmps.getD u undef]) w₂ := by
  simp only [results, h]
  simp [Sem.run_bind, Result.andThen]

set_option maxRecDepth 100000 in
set_option maxHeartbeats 4000000 in
theorem drawAc_any (a : Option Addr) (len cap : Nat) (zs : List Int) (w : World) (h : IsRow .u8 w a len cap zs) :
    Calls Tryd.prog 12 #[.slice a len cap] w (GotAc w) := by
  have H := Lib.hid (h.keep (w' := w.alloc (.cells #[.int .i64 0, .int .i64 0, .int .i64 0] 26)) fun x hx hc i v hv => (World.grownBy_alloc w _ none).cell hv (by simp))
  have KR := Lib.hid (Tk3.new w 0 0 0 26)
  have FR := Lib.hid (fun i => World.frozen?_alloc_at (w := w) #[.int .i64 0, .int .i64 0, .int .i64 0] 26 w.heap.size i rfl)
  have BR := Lib.hid ((Below.refl w.heap.size w).alloc (Nat.le_refl _) (.cells #[.int .i64 0, .int .i64 0, .int .i64 0] 26))
  clear h
  go_enter Tryd.func12, Tryd.ntmps12
  go_wp2_with fail
  obtain ⟨Wa, hWa⟩ : ∃ Wa, Wa = w.alloc (.cells #[.int .i64 0, .int .i64 0, .int .i64 0] 26) := ⟨_, rfl⟩
  rw [← hWa] at H KR FR BR ⊢
  clear hWa
  refine (open_any a len cap zs _ H.out).mono ?_
  rintro e w1 ⟨rfl, hb, hR⟩
  have D1 : Hid (Dw0 w w1 Wa.heap.size 0) := Lib.hid ⟨hR, BR.out.trans (hb.mono BR.out.size), KR.out.below hb, fun i => (hb.frozen (p := ⟨w.heap.size, i, none⟩) KR.out.lt).trans (FR.out i), KR.out.lt⟩
  obtain ⟨rd, hrd⟩ : ∃ rd, rd = Wa.heap.size := ⟨_, rfl⟩
  rw [← hrd] at D1 ⊢
  clear hb hR KR FR BR hrd H
  go_wp2_with fail
  refine (pick_rdr _ _ _ _ D1.out.rdr (by omega) (by omega) (by omega)).mono ?_
  rintro e w2 ⟨s, hs, rfl, hg, hR⟩
  have D2 := Lib.hid (D1.out.pick hg hR)
  clear hg hR D1
  go_wp2_with fail
  refine (pick_rdr _ _ _ _ D2.out.rdr (by omega) (by omega) (by omega)).mono ?_
  rintro e w3 ⟨d, hd, rfl, hg, hR⟩
  have D3 := Lib.hid (D2.out.pick hg hR)
  clear hg hR D2
  go_wp2_with fail
  refine (pick_rdr _ _ _ _ D3.out.rdr (by omega) (by omega) (by omega)).mono ?_
  rintro e w4 ⟨t1, ht1, rfl, hg, hR⟩
  have D4 := Lib.hid (D3.out.pick hg hR)
  clear hg hR D3
  go_wp2_with fail
  refine (pick_rdr _ _ _ _ D4.out.rdr (by omega) (by omega) (by omega)).mono ?_
  rintro e w5 ⟨t2, ht2, rfl, hg, hR⟩
  have D5 := Lib.hid (D4.out.pick hg hR)
  clear hg hR D4
  have HK := Lib.hid (show tkok s (1 + d) (10 * t1 + t2) from ⟨⟨by omega, by omega⟩, ⟨by omega, by omega⟩, by omega, by omega⟩)
  obtain ⟨hg0, hg9⟩ := tkt_bd HK.out
  go_wp2_with fail
  refine (smake_any s (1 + d) (10 * t1 + t2) w5).mono ?_
  intro e w6 hm
  obtain ⟨rfl, hb6⟩ := made_yes HK.out hm
  have D6 := Lib.hid (Dw.new (D5.out.below hb6) (1 + (d : Int)) (10 * (t1 : Int) + t2) (tkt s (1 + d) (10 * t1 + t2)))
  obtain ⟨z, hz⟩ : ∃ z, z = tkt s (1 + d) (10 * t1 + t2) := ⟨_, rfl⟩
  rw [← hz] at D6 hg0 hg9 ⊢
  clear hz HK hm hb6 D5
  obtain ⟨x, hx⟩ : ∃ x : Int, x = 1 + (d : Int) := ⟨_, rfl⟩
  have hx0 : 1 ≤ x := by omega
  have hx9 : x ≤ 99 := by omega
  rw [← hx] at D6 ⊢
  clear hx hd
  obtain ⟨y, hy⟩ : ∃ y : Int, y = 10 * (t1 : Int) + t2 := ⟨_, rfl⟩
  have hy0 : 0 ≤ y := by omega
  have hy9 : y ≤ 979 := by omega
  rw [← hy] at D6 ⊢
  clear hy ht1 ht2
  go_wp2_with fail
  obtain ⟨tb, htb⟩ : ∃ tb, tb = w6.heap.size := ⟨_, rfl⟩
  obtain ⟨W7, hW7⟩ : ∃ W7, W7 = w6.alloc (.cells #[.int .i64 x, .int .i64 y, .int .i64 z] 26) := ⟨_, rfl⟩
  rw [← htb] at D6 ⊢
  rw [← hW7] at D6 ⊢
  clear htb hW7
  refine (pick_rdr _ _ _ _ D6.out.d.rdr (by omega) (by omega) (by omega)).mono ?_
  rintro e w8 ⟨q, hq, rfl, hg, hR⟩
  have D8 := Lib.hid (D6.out.pick hg hR)
  clear hg hR D6
  go_wp2_with fail
  refine (pick_rdr _ _ _ _ D8.out.d.rdr (by omega) (by omega) (by omega)).mono ?_
  rintro e w9 ⟨c, hc, rfl, hg, hR⟩
  have D9 := Lib.hid (D8.out.pick hg hR)
  clear hg hR D8
  by_cases hc0 : c = 0
  · have b0 : ((c : Int) == 0) = true := by rw [hc0]; rfl
    clear hc0 hc
    have DR : Hid (Dw w w9.drew rd _ tb x y z) := Lib.hid (D9.out.below (Below.refl _ _).drew)
    have R9 : Hid (Rdr w9.drew rd _) := Lib.hid DR.out.d.rdr
    obtain ⟨c0, c1, c2⟩ := D9.out.tok
    obtain ⟨e0, e1, e2⟩ := DR.out.tok
    go_wp2_with fail
    go_region_with ((go_at_call 16; (with_reducible refine (pick_rdr _ _ _ _ R9.out ?_ ?_ ?_).mono ?_); omega; omega; omega; rintro e w10 ⟨r, hr, rfl, hg, hR⟩; have D10 := DR.out.pick hg hR; have f2 := D10.tok.c2; have g2 := D10.tf 2))
    all_goals
      have DT := Lib.hid (D10.set2 (IntKind.i64.wrap (IntKind.i64.wrap (z + 1) - (r : Int))))
      clear D10 f2 g2 hg hR e0 e1 e2 c0 c1 c2
      obtain ⟨z', hq'⟩ : ∃ z', z' = IntKind.i64.wrap (IntKind.i64.wrap (z + 1) - (r : Int)) := ⟨_, rfl⟩
      rw [← hq'] at DT ⊢
      clear hq'
      generalize w10.setCell ⟨tb, 2, none⟩ (.int .i64 z') = WT at DT ⊢
      obtain ⟨t0, t1, t2⟩ := DT.out.tok
      have g0 := DT.out.d.rf 0
      have g1 := DT.out.d.rf 1
      have g2 := DT.out.d.rf 2
      obtain ⟨r0, r1, r2⟩ := DT.out.d.res
      have FK : Hid (Tk3 ((((WT.setCell ⟨w.heap.size, 0, none⟩ (.int .i64 x)).setCell ⟨w.heap.size, 1, none⟩ (.int .i64 y)).setCell ⟨w.heap.size, 2, none⟩ (.int .i64 z')).drew) w.heap.size x y z') := Lib.hid ((((DT.out.d.res.set0 x).set1 y).set2 z').below (Below.refl _ _).drew)
      have BF : Hid (Below w.heap.size w ((((WT.setCell ⟨w.heap.size, 0, none⟩ (.int .i64 x)).setCell ⟨w.heap.size, 1, none⟩ (.int .i64 y)).setCell ⟨w.heap.size, 2, none⟩ (.int .i64 z')).drew)) := Lib.hid (((DT.out.d.bel.setCell (Nat.le_refl _) _).setCell (Nat.le_refl _) _).setCell (Nat.le_refl _) _).drew
      go_wp2_with fail
      go_region
      clear t0 t1 t2 g0 g1 g2 r0 r1 r2
      generalize (((WT.setCell ⟨w.heap.size, 0, none⟩ (.int .i64 x)).setCell ⟨w.heap.size, 1, none⟩ (.int .i64 y)).setCell ⟨w.heap.size, 2, none⟩ (.int .i64 z')).drew = WF at FK BF ⊢
      obtain ⟨s0, s1, s2⟩ := FK.out
      go_wp2_with fail
      refine bodyPost_ret (v := .tuple #[.int .i64 ↑s, .agg #[.int .i64 x, .int .i64 y, .int .i64 z'], .int .i64 x, .int .i64 (y + ↑q - 2)]) ?hr rfl ?_
      case hr => rw [results_s_c_s_s rfl]; go_simp
      exact ⟨_, _, _, _, _, _, ⟨⟨by omega, by omega⟩, ⟨by omega, by omega⟩, ⟨by omega, by omega⟩, by omega, by omega⟩, rfl, BF.out⟩
  by_cases hc1 : c = 1
  · have b0 : ((c : Int) == 0) = false := by rw [hc1]; rfl
    have b1 : ((c : Int) == 1) = true := by rw [hc1]; rfl
    clear hc0 hc1 hc
    have DR : Hid (Dw w w9.drew rd _ tb x y z) := Lib.hid (D9.out.below (Below.refl _ _).drew)
    have R9 : Hid (Rdr w9.drew rd _) := Lib.hid DR.out.d.rdr
    obtain ⟨c0, c1, c2⟩ := D9.out.tok
    obtain ⟨e0, e1, e2⟩ := DR.out.tok
    go_wp2_with fail
    go_region_with ((go_at_call 16; (with_reducible refine (pick_rdr _ _ _ _ R9.out ?_ ?_ ?_).mono ?_); omega; omega; omega; rintro e w10 ⟨r, hr, rfl, hg, hR⟩; have D10 := DR.out.pick hg hR; have f2 := D10.tok.c1; have g2 := D10.tf 1))
    all_goals
      have DT := Lib.hid (D10.set1 (IntKind.i64.wrap (IntKind.i64.wrap (y + (r : Int)) - 1)))
      have hv : IntKind.i64.wrap (IntKind.i64.wrap (y + (r : Int)) - 1) = y + r - 1 := by
        rw [show IntKind.i64.wrap (y + (r : Int)) = y + r from IntWalk.i64_in _ (by omega)]; exact IntWalk.i64_in _ (by omega)
      clear D10 f2 g2 hg hR e0 e1 e2 c0 c1 c2
      obtain ⟨y', hq'⟩ : ∃ y', y' = IntKind.i64.wrap (IntKind.i64.wrap (y + (r : Int)) - 1) := ⟨_, rfl⟩
      rw [← hq'] at DT hv ⊢
      have hv0 : -1 ≤ y' := by omega
      have hv9 : y' ≤ 1000 := by omega
      clear hv
      clear hq'
      generalize w10.setCell ⟨tb, 1, none⟩ (.int .i64 y') = WT at DT ⊢
      obtain ⟨t0, t1, t2⟩ := DT.out.tok
      have g0 := DT.out.d.rf 0
      have g1 := DT.out.d.rf 1
      have g2 := DT.out.d.rf 2
      obtain ⟨r0, r1, r2⟩ := DT.out.d.res
      have FK : Hid (Tk3 ((((WT.setCell ⟨w.heap.size, 0, none⟩ (.int .i64 x)).setCell ⟨w.heap.size, 1, none⟩ (.int .i64 y')).setCell ⟨w.heap.size, 2, none⟩ (.int .i64 z)).drew) w.heap.size x y' z) := Lib.hid ((((DT.out.d.res.set0 x).set1 y').set2 z).below (Below.refl _ _).drew)
      have BF : Hid (Below w.heap.size w ((((WT.setCell ⟨w.heap.size, 0, none⟩ (.int .i64 x)).setCell ⟨w.heap.size, 1, none⟩ (.int .i64 y')).setCell ⟨w.heap.size, 2, none⟩ (.int .i64 z)).drew)) := Lib.hid (((DT.out.d.bel.setCell (Nat.le_refl _) _).setCell (Nat.le_refl _) _).setCell (Nat.le_refl _) _).drew
      go_wp2_with fail
      go_region
      clear t0 t1 t2 g0 g1 g2 r0 r1 r2
      generalize (((WT.setCell ⟨w.heap.size, 0, none⟩ (.int .i64 x)).setCell ⟨w.heap.size, 1, none⟩ (.int .i64 y')).setCell ⟨w.heap.size, 2, none⟩ (.int .i64 z)).drew = WF at FK BF ⊢
      obtain ⟨s0, s1, s2⟩ := FK.out
      go_wp2_with fail
      refine bodyPost_ret (v := .tuple #[.int .i64 ↑s, .agg #[.int .i64 x, .int .i64 y', .int .i64 z], .int .i64 x, .int .i64 (y + ↑q - 2)]) ?hr rfl ?_
      case hr => rw [results_s_c_s_s rfl]; go_simp
      exact ⟨_, _, _, _, _, _, ⟨⟨by omega, by omega⟩, ⟨by omega, by omega⟩, ⟨by omega, by omega⟩, by omega, by omega⟩, rfl, BF.out⟩
  by_cases hc2 : c = 2
  · have b0 : ((c : Int) == 0) = false := by rw [hc2]; rfl
    have b1 : ((c : Int) == 1) = false := by rw [hc2]; rfl
    have b2 : ((c : Int) == 2) = true := by rw [hc2]; rfl
    clear hc0 hc1 hc2 hc
    go_wp2_with fail
    refine (pick_rdr _ _ _ _ D9.out.d.rdr (by omega) (by omega) (by omega)).mono ?_
    rintro e WT ⟨r, hr, rfl, hg, hR⟩
    have DT := Lib.hid (D9.out.pick hg hR)
    clear hg hR D9
    obtain ⟨t0, t1, t2⟩ := DT.out.tok
    have g0 := DT.out.d.rf 0
    have g1 := DT.out.d.rf 1
    have g2 := DT.out.d.rf 2
    obtain ⟨r0, r1, r2⟩ := DT.out.d.res
    have FK : Hid (Tk3 ((((WT.setCell ⟨w.heap.size, 0, none⟩ (.int .i64 x)).setCell ⟨w.heap.size, 1, none⟩ (.int .i64 y)).setCell ⟨w.heap.size, 2, none⟩ (.int .i64 z)).drew) w.heap.size x y z) := Lib.hid ((((DT.out.d.res.set0 x).set1 y).set2 z).below (Below.refl _ _).drew)
    have BF : Hid (Below w.heap.size w ((((WT.setCell ⟨w.heap.size, 0, none⟩ (.int .i64 x)).setCell ⟨w.heap.size, 1, none⟩ (.int .i64 y)).setCell ⟨w.heap.size, 2, none⟩ (.int .i64 z)).drew)) := Lib.hid (((DT.out.d.bel.setCell (Nat.le_refl _) _).setCell (Nat.le_refl _) _).setCell (Nat.le_refl _) _).drew
    go_wp2_with fail
    go_region
    clear t0 t1 t2 g0 g1 g2 r0 r1 r2
    generalize (((WT.setCell ⟨w.heap.size, 0, none⟩ (.int .i64 x)).setCell ⟨w.heap.size, 1, none⟩ (.int .i64 y)).setCell ⟨w.heap.size, 2, none⟩ (.int .i64 z)).drew = WF at FK BF ⊢
    obtain ⟨s0, s1, s2⟩ := FK.out
    go_wp2_with fail
    refine bodyPost_ret (v := .tuple #[.int .i64 ↑s, .agg #[.int .i64 x, .int .i64 y, .int .i64 z], .int .i64 (↑r - 1), .int .i64 (y + ↑q - 2)]) ?hr rfl ?_
    case hr => rw [results_s_c_s_s rfl]; go_simp
    exact ⟨_, _, _, _, _, _, ⟨⟨by omega, by omega⟩, ⟨by omega, by omega⟩, ⟨by omega, by omega⟩, by omega, by omega⟩, rfl, BF.out⟩
  by_cases hc3 : c = 3
  · have b0 : ((c : Int) == 0) = false := by rw [hc3]; rfl
    have b1 : ((c : Int) == 1) = false := by rw [hc3]; rfl
    have b2 : ((c : Int) == 2) = false := by rw [hc3]; rfl
    have b3 : ((c : Int) == 3) = true := by rw [hc3]; rfl
    clear hc0 hc1 hc2 hc3 hc
    go_wp2_with fail
    refine (pick_rdr _ _ _ _ D9.out.d.rdr (by omega) (by omega) (by omega)).mono ?_
    rintro e WT ⟨r, hr, rfl, hg, hR⟩
    have DT := Lib.hid (D9.out.pick hg hR)
    clear hg hR D9
    obtain ⟨t0, t1, t2⟩ := DT.out.tok
    have g0 := DT.out.d.rf 0
    have g1 := DT.out.d.rf 1
    have g2 := DT.out.d.rf 2
    obtain ⟨r0, r1, r2⟩ := DT.out.d.res
    have FK : Hid (Tk3 ((((WT.setCell ⟨w.heap.size, 0, none⟩ (.int .i64 x)).setCell ⟨w.heap.size, 1, none⟩ (.int .i64 y)).setCell ⟨w.heap.size, 2, none⟩ (.int .i64 z)).drew) w.heap.size x y z) := Lib.hid ((((DT.out.d.res.set0 x).set1 y).set2 z).below (Below.refl _ _).drew)
    have BF : Hid (Below w.heap.size w ((((WT.setCell ⟨w.heap.size, 0, none⟩ (.int .i64 x)).setCell ⟨w.heap.size, 1, none⟩ (.int .i64 y)).setCell ⟨w.heap.size, 2, none⟩ (.int .i64 z)).drew)) := Lib.hid (((DT.out.d.bel.setCell (Nat.le_refl _) _).setCell (Nat.le_refl _) _).setCell (Nat.le_refl _) _).drew
    go_wp2_with fail
    go_region
    clear t0 t1 t2 g0 g1 g2 r0 r1 r2
    generalize (((WT.setCell ⟨w.heap.size, 0, none⟩ (.int .i64 x)).setCell ⟨w.heap.size, 1, none⟩ (.int .i64 y)).setCell ⟨w.heap.size, 2, none⟩ (.int .i64 z)).drew = WF at FK BF ⊢
    obtain ⟨s0, s1, s2⟩ := FK.out
    go_wp2_with fail
    refine bodyPost_ret (v := .tuple #[.int .i64 (↑r - 1), .agg #[.int .i64 x, .int .i64 y, .int .i64 z], .int .i64 x, .int .i64 (y + ↑q - 2)]) ?hr rfl ?_
    case hr => rw [results_s_c_s_s rfl]; go_simp
    exact ⟨_, _, _, _, _, _, ⟨⟨by omega, by omega⟩, ⟨by omega, by omega⟩, ⟨by omega, by omega⟩, by omega, by omega⟩, rfl, BF.out⟩
  · have b0 : ((c : Int) == 0) = false := by rw [beq_eq_false_iff_ne]; omega
    have b1 : ((c : Int) == 1) = false := by rw [beq_eq_false_iff_ne]; omega
    have b2 : ((c : Int) == 2) = false := by rw [beq_eq_false_iff_ne]; omega
    have b3 : ((c : Int) == 3) = false := by rw [beq_eq_false_iff_ne]; omega
    clear hc0 hc1 hc2 hc3 hc
    obtain ⟨WT, hWT⟩ : ∃ WT, WT = w9 := ⟨_, rfl⟩
    rw [← hWT] at D9 ⊢
    have DT := D9
    clear hWT D9
    obtain ⟨t0, t1, t2⟩ := DT.out.tok
    have g0 := DT.out.d.rf 0
    have g1 := DT.out.d.rf 1
    have g2 := DT.out.d.rf 2
    obtain ⟨r0, r1, r2⟩ := DT.out.d.res
    have FK : Hid (Tk3 ((((WT.setCell ⟨w.heap.size, 0, none⟩ (.int .i64 x)).setCell ⟨w.heap.size, 1, none⟩ (.int .i64 y)).setCell ⟨w.heap.size, 2, none⟩ (.int .i64 z)).drew) w.heap.size x y z) := Lib.hid ((((DT.out.d.res.set0 x).set1 y).set2 z).below (Below.refl _ _).drew)
    have BF : Hid (Below w.heap.size w ((((WT.setCell ⟨w.heap.size, 0, none⟩ (.int .i64 x)).setCell ⟨w.heap.size, 1, none⟩ (.int .i64 y)).setCell ⟨w.heap.size, 2, none⟩ (.int .i64 z)).drew)) := Lib.hid (((DT.out.d.bel.setCell (Nat.le_refl _) _).setCell (Nat.le_refl _) _).setCell (Nat.le_refl _) _).drew
    go_wp2_with fail
    go_region
    clear t0 t1 t2 g0 g1 g2 r0 r1 r2
    generalize (((WT.setCell ⟨w.heap.size, 0, none⟩ (.int .i64 x)).setCell ⟨w.heap.size, 1, none⟩ (.int .i64 y)).setCell ⟨w.heap.size, 2, none⟩ (.int .i64 z)).drew = WF at FK BF ⊢
    obtain ⟨s0, s1, s2⟩ := FK.out
    go_wp2_with fail
    refine bodyPost_ret (v := .tuple #[.int .i64 ↑s, .agg #[.int .i64 x, .int .i64 y, .int .i64 z], .int .i64 x, .int .i64 (y + ↑q - 2)]) ?hr rfl ?_
    case hr => rw [results_s_c_s_s rfl]; go_simp
    exact ⟨_, _, _, _, _, _, ⟨⟨by omega, by omega⟩, ⟨by omega, by omega⟩, ⟨by omega, by omega⟩, by omega, by omega⟩, rfl, BF.out⟩

end Go.Proofs.YtbmlckhjjfipbaaDoor
