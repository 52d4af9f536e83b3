/- The model's l23Ack, l23Loss. -/
import Derived.Test.YtfggldholaibeaaWUpd
import Derived.Test.YtfggldholaibeaaWSv
import Derived.Deep.RegionLaw
namespace Go.Proofs.Ytfggldholaibeaa
open Go.RowKit
set_option linter.unusedVariables false
set_option linter.unusedSimpArgs false

theorem wcells_put : ∀ (l : List Wd) (i : Nat) (a b c d : Int), i < l.length → ((((wcells l).set (i * 4) (.int .i64 a)).set (i * 4 + 1) (.int .i64 b)).set (i * 4 + 2) (.int .i64 c)).set (i * 4 + 3) (.int .i64 d) = wcells (l.set i (a, b, c, d))
  | [], i, a, b, c, d, h => by simp at h
  | p :: t, 0, a, b, c, d, _ => by simp [wcells, wcell]
  | p :: t, i + 1, a, b, c, d, h => by
    have ih := wcells_put t i a b c d (by simpa using h)
    have e : wcells (p :: t) = wcell p ++ wcells t := by simp [wcells]
    have e' : wcells ((p :: t).set (i + 1) (a, b, c, d)) = wcell p ++ wcells (t.set i (a, b, c, d)) := by simp [wcells]
    have hl : (wcell p).length = 4 := rfl
    rw [e, e', ← ih, List.set_append_right _ _ (by omega), List.set_append_right _ _ (by omega), List.set_append_right _ _ (by omega), List.set_append_right _ _ (by omega), hl]
    rw [show (i + 1) * 4 - 4 = i * 4 by omega, show (i + 1) * 4 + 1 - 4 = i * 4 + 1 by omega, show (i + 1) * 4 + 2 - 4 = i * 4 + 2 by omega, show (i + 1) * 4 + 3 - 4 = i * 4 + 3 by omega]
theorem OwnW.put {w : World} {B g c i : Nat} {l : List Wd} {x y z t : Int} (h : OwnW w B (.slice (some ⟨g, 0, none⟩) l.length c) l) (hi : i < l.length) :
    OwnW ((((w.setCell ⟨g, i * 4, none⟩ (.int .i64 x)).setCell ⟨g, i * 4 + 1, none⟩ (.int .i64 y)).setCell ⟨g, i * 4 + 2, none⟩ (.int .i64 z)).setCell ⟨g, i * 4 + 3, none⟩ (.int .i64 t)) B (.slice (some ⟨g, 0, none⟩) l.length c) (l.set i (x, y, z, t)) := by
  have h1 := (World.ownsRow.stored h (i * 4) (.int .i64 x)).1
  have h2 := (World.ownsRow.stored h1 (i * 4 + 1) (.int .i64 y)).1
  have h3 := (World.ownsRow.stored h2 (i * 4 + 2) (.int .i64 z)).1
  have h4 := (World.ownsRow.stored h3 (i * 4 + 3) (.int .i64 t)).1
  unfold OwnW
  rw [List.length_set, ← wcells_put l i x y z t hi]
  exact h4
theorem OwnW.at_ {w : World} {B g c i : Nat} {l : List Wd} (h : OwnW w B (.slice (some ⟨g, 0, none⟩) l.length c) l) (hi : i < l.length) : WdAt w g (i * 4) (l.getD i wdD) ∧ ∀ j, w.frozen? ⟨g, j, none⟩ = false := by
  refine ⟨?_, fun j => World.ownsRow.frozenAt h j⟩
  obtain ⟨a, c', e, _, k⟩ := h.pks
  obtain ⟨g', o', e2, k⟩ := k (by rintro rfl; simp at hi)
  simp only [Value.slice.injEq] at e
  rw [← e.1] at e2
  simp only [Option.some.injEq, Addr.mk.injEq] at e2
  obtain ⟨rfl, rfl, _⟩ := e2
  have := k i hi
  rwa [Nat.zero_add] at this
theorem OwnW.open {w : World} {B : Nat} {v : Value} {l : List Wd} (h : OwnW w B v l) (hn : v.ownBlock ≠ none) : ∃ g c, v = .slice (some ⟨g, 0, none⟩) l.length c ∧ B ≤ g ∧ g < w.heap.size := by
  have h' := h
  obtain ⟨_, ⟨h1, _⟩ | ⟨g, c, cur, h1, h2, h3, _⟩⟩ := h
  · rw [h1] at hn; exact absurd rfl hn
  · exact ⟨g, c, h1, h2, (Array.getElem?_eq_some_iff.1 h3).1⟩

/-- The copied row at g, the window's variable at xb. -/
structure KA (w W : World) (g xb c : Nat) (l : List Wd) (x y z t : Int) : Prop where
  own : OwnW W w.heap.size (.slice (some ⟨g, 0, none⟩) l.length c) l
  r : R4 W xb x y z t
  up : Below w.heap.size w W
  ord : w.heap.size ≤ g ∧ w.heap.size ≤ xb ∧ xb ≠ g
theorem KA.below {w W W' : World} {g xb c : Nat} {l : List Wd} {x y z t : Int} (h : KA w W g xb c l x y z t) (hb : Below W.heap.size W W') : KA w W' g xb c l x y z t :=
  ⟨h.own.below hb, h.r.below hb h.r.lt, h.up.trans (hb.mono h.up.size), h.ord⟩
theorem KA.set0 {w W : World} {g xb c : Nat} {l : List Wd} {x y z t : Int} (h : KA w W g xb c l x y z t) (v : Int) : KA w (W.setCell ⟨xb, 0, none⟩ (.int .i64 v)) g xb c l v y z t :=
  ⟨h.own.far (fun e => h.ord.2.2 (by injection e with e; exact e.symm)), h.r.set0 v, h.up.setCell (p := ⟨xb, 0, none⟩) h.ord.2.1 _, h.ord⟩
theorem KA.set2 {w W : World} {g xb c : Nat} {l : List Wd} {x y z t : Int} (h : KA w W g xb c l x y z t) (v : Int) : KA w (W.setCell ⟨xb, 2, none⟩ (.int .i64 v)) g xb c l x y v t :=
  ⟨h.own.far (fun e => h.ord.2.2 (by injection e with e; exact e.symm)), h.r.set2 v, h.up.setCell (p := ⟨xb, 2, none⟩) h.ord.2.1 _, h.ord⟩
theorem put_below {w W : World} {g i : Nat} (h : Below w.heap.size w W) (hg : w.heap.size ≤ g) (x y z t : Value) : Below w.heap.size w ((((W.setCell ⟨g, i * 4, none⟩ x).setCell ⟨g, i * 4 + 1, none⟩ y).setCell ⟨g, i * 4 + 2, none⟩ z).setCell ⟨g, i * 4 + 3, none⟩ t) :=
  (((h.setCell (p := ⟨g, i * 4, none⟩) hg _).setCell (p := ⟨g, i * 4 + 1, none⟩) hg _).setCell (p := ⟨g, i * 4 + 2, none⟩) hg _).setCell (p := ⟨g, i * 4 + 3, none⟩) hg _

set_option maxRecDepth 100000 in
set_option maxHeartbeats 4000000 in
theorem sack_any (v : Value) (l : List Wd) (k : Nat) (w : World) (h : Wds w v l) (hok : wok l) (hk : k < l.length) : Calls Try.prog 33 #[v, .int .i64 (k : Int)] w (GotW w (wack l k)) := by
  have HW := Lib.hid h
  obtain ⟨a, c, rfl, _, hg⟩ := h
  obtain ⟨g0, o0, rfl, _⟩ := hg (by rintro rfl; simp at hk)
  have HK := Lib.hid hok
  have hl4 : l.length ≤ 4 := hok.1.2
  have hkl : (k : Int) < (l.length : Int) := by omega
  have U : Below w.heap.size w (w.alloc (.cells #[] 35)) := (Below.refl _ _).alloc (Nat.le_refl _) _
  have O := Lib.hid (OwnW.new w.heap.size w (Nat.le_refl _))
  have S := Lib.hid (SrcW.of (HW.out.below U) (.inl (by simp [Value.ownBlock])))
  have B := Lib.hid U
  clear U hg hok
  go_enter Try.func33, Try.ntmps33
  go_wp2_with (at_builtin; refine wpList_app_wd _ rfl _ _ rfl w.heap.size _ [] l rfl O.out _ rfl S.out ?c1 ?c2 ?_)
  case c1 => simp; omega
  case c2 => simp
  intro aa nn cc w3 hO hnn hg hgg hnil
  have hne : (Value.slice aa nn cc).ownBlock ≠ none := fun e => by rcases hgg with h | h <;> (rw [h] at e; cases e)
  have B3 := Lib.hid (B.out.grown hg B.out.size (fun q hq => by simp [Value.ownBlock] at hq; omega))
  have hO' : OwnW w3 w.heap.size (.slice aa nn cc) l := by simpa using hO
  obtain ⟨g, c3, e3, hg1, hg2⟩ := OwnW.open hO' hne
  rw [e3] at hO' ⊢
  have HO := Lib.hid hO'
  clear hO hO' hnn hg hgg hnil hne e3 O S B
  have HP := Lib.hid (HK.out.2 _ (takeW l k hk).2)
  have HA := Lib.hid (HO.out.at_ hk)
  have HQ : Hid (wack l k = l.set k (ack1 (winc l (l.getD k wdD)) (l.getD k wdD))) := Lib.hid rfl
  obtain ⟨p, hp⟩ : ∃ p, l.getD k wdD = p := ⟨_, rfl⟩
  rw [hp] at HP HA HQ
  have HG := Lib.hid hp
  obtain ⟨x, y, z, t⟩ := p
  clear hp
  obtain ⟨⟨c0, c1, c2, c3'⟩, fz⟩ := HA.out
  simp only at c0 c1 c2 c3'
  have K0 : Hid (KA w (w3.alloc (.cells #[.int .i64 x, .int .i64 y, .int .i64 z, .int .i64 t] 35)) g w3.heap.size c3 l x y z t) := Lib.hid (by
    have u : Below w3.heap.size w3 (w3.alloc (.cells #[.int .i64 x, .int .i64 y, .int .i64 z, .int .i64 t] 35)) := (Below.refl _ _).alloc (Nat.le_refl _) _
    exact ⟨HO.out.below u, R4.new w3 x y z t _, B3.out.trans (u.mono B3.out.size), hg1, B3.out.size, by omega⟩)
  obtain ⟨⟨x1, x2⟩, ⟨y1, y2⟩, ⟨z1, z2⟩, _⟩ := HP.out
  simp only at x1 x2 y1 y2 z1 z2
  have hbd := winc_bd HK.out HP.out
  have CI : Hid (∀ W, Below w.heap.size w W → Calls Try.prog 30 #[.slice (some ⟨g0, o0, none⟩) l.length c, .int .i64 (k : Int)] W (GotI W (winc l (x, y, z, t)))) := Lib.hid fun W hb => by
    have e := sinc_any _ l k W (HW.out.below hb) HK.out hk
    rwa [HG.out] at e
  generalize winc l (x, y, z, t) = n at CI HQ hbd
  have hn : 0 ≤ n ∧ n ≤ 1000 := by omega
  clear hbd
  obtain ⟨n1, n2⟩ := hn
  have w1 : wrap64 (x + 1) = x + 1 := by unfold wrap64; omega
  have w2 : wrap64 (z + n) = z + n := by unfold wrap64; omega
  have w4 : wrap64 (z + n - 1000) = z + n - 1000 := by unfold wrap64; omega
  have HE := Lib.hid (show ack1 n (x, y, z, t) = if x < y then (x + 1, y, z, t) else if 1000 ≤ z + n then (min (x + 1) 64, y, z + n - 1000, t) else (x, y, z + n, t) from rfl)
  clear HA hg1 hg2
  by_cases hxy : x < y
  · have HL : Hid (l.set k (x + 1, y, z, t) = wack l k) := Lib.hid (by rw [HQ.out, HE.out, if_pos hxy])
    go_upto_region 3 with fail
    clear c0 c1 c2 c3' fz
    generalize w3.alloc (.cells #[.int .i64 x, .int .i64 y, .int .i64 z, .int .i64 t] 35) = W0 at K0 ⊢
    generalize w3.heap.size = xb at K0 ⊢
    obtain ⟨r0, r1, r2, r3, rf⟩ := K0.out.r
    have f0 := rf 0
    have K1 := Lib.hid (K0.out.set0 (x + 1))
    go_upto_region 9 with fail
    generalize W0.setCell ⟨xb, 0, none⟩ (.int .i64 (x + 1)) = W1 at K1 ⊢
    clear r0 r1 r2 r3 rf f0 K0
    obtain ⟨q0, q1, q2, q3, qf⟩ := K1.out.r
    obtain ⟨⟨s0, s1, s2, s3⟩, sf⟩ := K1.out.own.at_ hk
    have e0 := sf (k * 4)
    have e1 := sf (k * 4 + 1)
    have e2 := sf (k * 4 + 2)
    have e3 := sf (k * 4 + 3)
    have E1 := Lib.hid (K1.out.own.put (x := x + 1) (y := y) (z := z) (t := t) hk)
    have E2 := Lib.hid (put_below (i := k) K1.out.up K1.out.ord.1 (.int .i64 (x + 1)) (.int .i64 (y)) (.int .i64 (z)) (.int .i64 (t)))
    rw [HL.out] at E1
    clear qf sf
    go_upto_region 10 with fail
    generalize (((W1.setCell ⟨g, k * 4, none⟩ (.int .i64 (x + 1))).setCell ⟨g, k * 4 + 1, none⟩ (.int .i64 (y))).setCell ⟨g, k * 4 + 2, none⟩ (.int .i64 (z))).setCell ⟨g, k * 4 + 3, none⟩ (.int .i64 (t)) = WF at E1 E2 ⊢
    clear q0 q1 q2 q3 s0 s1 s2 s3 e0 e1 e2 e3 K1
    go_wp2_with fail
    go_ret
    exact ⟨.slice (some ⟨g, 0, none⟩) l.length c3, rfl, E1.out, by simp [Value.ownBlock], E2.out⟩
  · by_cases hzn : 1000 ≤ z + n
    · by_cases h64 : x + 1 ≤ 64
      · have HL : Hid (l.set k (x + 1, y, z + n - 1000, t) = wack l k) := Lib.hid (by rw [HQ.out, HE.out, if_neg hxy, if_pos hzn, show min (x + 1) 64 = x + 1 by omega])
        go_upto_region 3 with fail
        clear c0 c1 c2 c3' fz
        generalize w3.alloc (.cells #[.int .i64 x, .int .i64 y, .int .i64 z, .int .i64 t] 35) = W0 at K0 ⊢
        generalize w3.heap.size = xb at K0 ⊢
        obtain ⟨r0, r1, r2, r3, rf⟩ := K0.out.r
        go_wp2_with fail
        clear r0 r1
        have KD := Lib.hid (K0.out.below (Below.refl _ _).drew)
        have f2 := rf 2
        have CJ := Lib.hid (CI.out _ KD.out.up)
        clear K0 CI rf r3
        go_region_law ((first
            | (go_simp; (with_reducible refine CJ.out.mono ?_); rintro e W5 ⟨rfl, hb⟩; have K1 := Lib.hid (KD.out.below hb); have r9 := K1.out.r.c2; have f9 := K1.out.r.fz 2; clear hb)))
        all_goals
          have K2 := Lib.hid (K1.out.set2 (z + n))
          rw [show IntKind.i64.wrap (z + n) = z + n from IntWalk.i64_in _ (by omega)]
          generalize W5.setCell ⟨xb, 2, none⟩ (.int .i64 (z + n)) = W2 at K2 ⊢
          clear r2 r9 f9 f2 K1 KD CJ
          obtain ⟨r0, r1, r2, r3, rf⟩ := K2.out.r
          have f2 := rf 2
          have K3 := Lib.hid (K2.out.set2 (z + n - 1000))
          go_upto_region 8 with fail
          generalize W2.setCell ⟨xb, 2, none⟩ (.int .i64 (z + n - 1000)) = W3 at K3 ⊢
          clear r0 r1 r2 r3 rf f2 K2
          obtain ⟨r0, r1, r2, r3, rf⟩ := K3.out.r
          have f0 := rf 0
          have K4 := Lib.hid (K3.out.set0 (x + 1))
          go_upto_region 9 with fail
          generalize W3.setCell ⟨xb, 0, none⟩ (.int .i64 (x + 1)) = W4 at K4 ⊢
          clear r0 r1 r2 r3 rf f0 K3
          obtain ⟨q0, q1, q2, q3, qf⟩ := K4.out.r
          obtain ⟨⟨s0, s1, s2, s3⟩, sf⟩ := K4.out.own.at_ hk
          have e0 := sf (k * 4)
          have e1 := sf (k * 4 + 1)
          have e2 := sf (k * 4 + 2)
          have e3 := sf (k * 4 + 3)
          have E1 := Lib.hid (K4.out.own.put (x := x + 1) (y := y) (z := z + n - 1000) (t := t) hk)
          have E2 := Lib.hid (put_below (i := k) K4.out.up K4.out.ord.1 (.int .i64 (x + 1)) (.int .i64 (y)) (.int .i64 (z + n - 1000)) (.int .i64 (t)))
          rw [HL.out] at E1
          clear qf sf
          go_upto_region 10 with fail
          generalize (((W4.setCell ⟨g, k * 4, none⟩ (.int .i64 (x + 1))).setCell ⟨g, k * 4 + 1, none⟩ (.int .i64 (y))).setCell ⟨g, k * 4 + 2, none⟩ (.int .i64 (z + n - 1000))).setCell ⟨g, k * 4 + 3, none⟩ (.int .i64 (t)) = WF at E1 E2 ⊢
          clear q0 q1 q2 q3 s0 s1 s2 s3 e0 e1 e2 e3 K4
          go_wp2_with fail
          go_ret
          exact ⟨.slice (some ⟨g, 0, none⟩) l.length c3, rfl, E1.out, by simp [Value.ownBlock], E2.out⟩
      · have HL : Hid (l.set k (64, y, z + n - 1000, t) = wack l k) := Lib.hid (by rw [HQ.out, HE.out, if_neg hxy, if_pos hzn, show min (x + 1) 64 = 64 by omega])
        go_upto_region 3 with fail
        clear c0 c1 c2 c3' fz
        generalize w3.alloc (.cells #[.int .i64 x, .int .i64 y, .int .i64 z, .int .i64 t] 35) = W0 at K0 ⊢
        generalize w3.heap.size = xb at K0 ⊢
        obtain ⟨r0, r1, r2, r3, rf⟩ := K0.out.r
        go_wp2_with fail
        clear r0 r1
        have KD := Lib.hid (K0.out.below (Below.refl _ _).drew)
        have f2 := rf 2
        have CJ := Lib.hid (CI.out _ KD.out.up)
        clear K0 CI rf r3
        go_region_law ((first
            | (go_simp; (with_reducible refine CJ.out.mono ?_); rintro e W5 ⟨rfl, hb⟩; have K1 := Lib.hid (KD.out.below hb); have r9 := K1.out.r.c2; have f9 := K1.out.r.fz 2; clear hb)))
        all_goals
          have K2 := Lib.hid (K1.out.set2 (z + n))
          rw [show IntKind.i64.wrap (z + n) = z + n from IntWalk.i64_in _ (by omega)]
          generalize W5.setCell ⟨xb, 2, none⟩ (.int .i64 (z + n)) = W2 at K2 ⊢
          clear r2 r9 f9 f2 K1 KD CJ
          obtain ⟨r0, r1, r2, r3, rf⟩ := K2.out.r
          have f2 := rf 2
          have K3 := Lib.hid (K2.out.set2 (z + n - 1000))
          go_upto_region 8 with fail
          generalize W2.setCell ⟨xb, 2, none⟩ (.int .i64 (z + n - 1000)) = W3 at K3 ⊢
          clear r0 r1 r2 r3 rf f2 K2
          obtain ⟨r0, r1, r2, r3, rf⟩ := K3.out.r
          have f0 := rf 0
          have K4 := Lib.hid (K3.out.set0 (64))
          go_upto_region 9 with fail
          generalize W3.setCell ⟨xb, 0, none⟩ (.int .i64 (64)) = W4 at K4 ⊢
          clear r0 r1 r2 r3 rf f0 K3
          obtain ⟨q0, q1, q2, q3, qf⟩ := K4.out.r
          obtain ⟨⟨s0, s1, s2, s3⟩, sf⟩ := K4.out.own.at_ hk
          have e0 := sf (k * 4)
          have e1 := sf (k * 4 + 1)
          have e2 := sf (k * 4 + 2)
          have e3 := sf (k * 4 + 3)
          have E1 := Lib.hid (K4.out.own.put (x := 64) (y := y) (z := z + n - 1000) (t := t) hk)
          have E2 := Lib.hid (put_below (i := k) K4.out.up K4.out.ord.1 (.int .i64 (64)) (.int .i64 (y)) (.int .i64 (z + n - 1000)) (.int .i64 (t)))
          rw [HL.out] at E1
          clear qf sf
          go_upto_region 10 with fail
          generalize (((W4.setCell ⟨g, k * 4, none⟩ (.int .i64 (64))).setCell ⟨g, k * 4 + 1, none⟩ (.int .i64 (y))).setCell ⟨g, k * 4 + 2, none⟩ (.int .i64 (z + n - 1000))).setCell ⟨g, k * 4 + 3, none⟩ (.int .i64 (t)) = WF at E1 E2 ⊢
          clear q0 q1 q2 q3 s0 s1 s2 s3 e0 e1 e2 e3 K4
          go_wp2_with fail
          go_ret
          exact ⟨.slice (some ⟨g, 0, none⟩) l.length c3, rfl, E1.out, by simp [Value.ownBlock], E2.out⟩
    · have HL : Hid (l.set k (x, y, z + n, t) = wack l k) := Lib.hid (by rw [HQ.out, HE.out, if_neg hxy, if_neg hzn])
      go_upto_region 3 with fail
      clear c0 c1 c2 c3' fz
      generalize w3.alloc (.cells #[.int .i64 x, .int .i64 y, .int .i64 z, .int .i64 t] 35) = W0 at K0 ⊢
      generalize w3.heap.size = xb at K0 ⊢
      obtain ⟨r0, r1, r2, r3, rf⟩ := K0.out.r
      go_wp2_with fail
      clear r0 r1
      have KD := Lib.hid (K0.out.below (Below.refl _ _).drew)
      have f2 := rf 2
      have CJ := Lib.hid (CI.out _ KD.out.up)
      clear K0 CI rf r3
      go_region_law ((first
          | (go_simp; (with_reducible refine CJ.out.mono ?_); rintro e W5 ⟨rfl, hb⟩; have K1 := Lib.hid (KD.out.below hb); have r9 := K1.out.r.c2; have f9 := K1.out.r.fz 2; clear hb)))
      all_goals
        have K2 := Lib.hid (K1.out.set2 (z + n))
        rw [show IntKind.i64.wrap (z + n) = z + n from IntWalk.i64_in _ (by omega)]
        generalize W5.setCell ⟨xb, 2, none⟩ (.int .i64 (z + n)) = W2 at K2 ⊢
        clear r2 r9 f9 f2 K1 KD CJ
        obtain ⟨r0, r1, r2, r3, rf⟩ := K2.out.r
        go_upto_region 9 with fail
        clear r0 r1 r2 r3 rf
        obtain ⟨q0, q1, q2, q3, qf⟩ := K2.out.r
        obtain ⟨⟨s0, s1, s2, s3⟩, sf⟩ := K2.out.own.at_ hk
        have e0 := sf (k * 4)
        have e1 := sf (k * 4 + 1)
        have e2 := sf (k * 4 + 2)
        have e3 := sf (k * 4 + 3)
        have E1 := Lib.hid (K2.out.own.put (x := x) (y := y) (z := z + n) (t := t) hk)
        have E2 := Lib.hid (put_below (i := k) K2.out.up K2.out.ord.1 (.int .i64 (x)) (.int .i64 (y)) (.int .i64 (z + n)) (.int .i64 (t)))
        rw [HL.out] at E1
        clear qf sf
        go_upto_region 10 with fail
        generalize (((W2.setCell ⟨g, k * 4, none⟩ (.int .i64 (x))).setCell ⟨g, k * 4 + 1, none⟩ (.int .i64 (y))).setCell ⟨g, k * 4 + 2, none⟩ (.int .i64 (z + n))).setCell ⟨g, k * 4 + 3, none⟩ (.int .i64 (t)) = WF at E1 E2 ⊢
        clear q0 q1 q2 q3 s0 s1 s2 s3 e0 e1 e2 e3 K2
        go_wp2_with fail
        go_ret
        exact ⟨.slice (some ⟨g, 0, none⟩) l.length c3, rfl, E1.out, by simp [Value.ownBlock], E2.out⟩

set_option maxRecDepth 100000 in
set_option maxHeartbeats 4000000 in
theorem sloss_any (v : Value) (l : List Wd) (k : Nat) (w : World) (h : Wds w v l) (hok : wok l) (hk : k < l.length) : Calls Try.prog 36 #[v, .int .i64 (k : Int)] w (GotW w (wloss l k)) := by
  have HW := Lib.hid h
  obtain ⟨a, c, rfl, _, hg⟩ := h
  obtain ⟨g0, o0, rfl, _⟩ := hg (by rintro rfl; simp at hk)
  have HK := Lib.hid hok
  have hl4 : l.length ≤ 4 := hok.1.2
  have hkl : (k : Int) < (l.length : Int) := by omega
  have U : Below w.heap.size w (w.alloc (.cells #[] 35)) := (Below.refl _ _).alloc (Nat.le_refl _) _
  have O := Lib.hid (OwnW.new w.heap.size w (Nat.le_refl _))
  have S := Lib.hid (SrcW.of (HW.out.below U) (.inl (by simp [Value.ownBlock])))
  have B := Lib.hid U
  clear U hg hok
  go_enter Try.func36, Try.ntmps36
  go_wp2_with (at_builtin; refine wpList_app_wd _ rfl _ _ rfl w.heap.size _ [] l rfl O.out _ rfl S.out ?c1 ?c2 ?_)
  case c1 => simp; omega
  case c2 => simp
  intro aa nn cc w3 hO hnn hg hgg hnil
  have hne : (Value.slice aa nn cc).ownBlock ≠ none := fun e => by rcases hgg with h | h <;> (rw [h] at e; cases e)
  have B3 := Lib.hid (B.out.grown hg B.out.size (fun q hq => by simp [Value.ownBlock] at hq; omega))
  have hO' : OwnW w3 w.heap.size (.slice aa nn cc) l := by simpa using hO
  obtain ⟨g, c3, e3, hg1, hg2⟩ := OwnW.open hO' hne
  rw [e3] at hO' ⊢
  have HO := Lib.hid hO'
  clear hO hO' hnn hg hgg hnil hne e3 O S B
  have HP := Lib.hid (HK.out.2 _ (takeW l k hk).2)
  have HA := Lib.hid (HO.out.at_ hk)
  have HQ : Hid (wloss l k = l.set k (loss1 (l.getD k wdD))) := Lib.hid rfl
  obtain ⟨p, hp⟩ : ∃ p, l.getD k wdD = p := ⟨_, rfl⟩
  rw [hp] at HP HA HQ
  have HG := Lib.hid hp
  obtain ⟨x, y, z, t⟩ := p
  clear hp
  obtain ⟨⟨c0, c1, c2, c3'⟩, fz⟩ := HA.out
  simp only at c0 c1 c2 c3'
  obtain ⟨⟨x1, x2⟩, _⟩ := HP.out
  simp only at x1 x2
  have e0 := fz (k * 4)
  have e1 := fz (k * 4 + 1)
  have e2 := fz (k * 4 + 2)
  have e3 := fz (k * 4 + 3)
  obtain ⟨m, hm⟩ : ∃ m, max (x / 2) 1 = m := ⟨_, rfl⟩
  have HE := Lib.hid (show loss1 (x, y, z, t) = (m, m, 0, t) by rw [← hm]; rfl)
  have HL : Hid (l.set k (m, m, 0, t) = wloss l k) := Lib.hid (by rw [HQ.out, HE.out])
  have E1 := Lib.hid (HO.out.put (x := m) (y := m) (z := 0) (t := t) hk)
  have E2 := Lib.hid (put_below (i := k) B3.out hg1 (.int .i64 m) (.int .i64 m) (.int .i64 0) (.int .i64 t))
  rw [HL.out] at E1
  clear HQ HE HA HL hg1 hg2 fz
  by_cases h1 : 1 ≤ x / 2
  · rw [show m = x / 2 by omega] at E1 E2
    clear hm
    go_wp2_with fail
    generalize (((w3.setCell ⟨g, k * 4, none⟩ (.int .i64 (x / 2))).setCell ⟨g, k * 4 + 1, none⟩ (.int .i64 (x / 2))).setCell ⟨g, k * 4 + 2, none⟩ (.int .i64 0)).setCell ⟨g, k * 4 + 3, none⟩ (.int .i64 t) = WF at E1 E2 ⊢
    go_ret
    exact ⟨.slice (some ⟨g, 0, none⟩) l.length c3, rfl, E1.out, by simp [Value.ownBlock], E2.out⟩
  · rw [show m = 1 by omega] at E1 E2
    clear hm
    go_wp2_with fail
    generalize (((w3.setCell ⟨g, k * 4, none⟩ (.int .i64 (1))).setCell ⟨g, k * 4 + 1, none⟩ (.int .i64 (1))).setCell ⟨g, k * 4 + 2, none⟩ (.int .i64 0)).setCell ⟨g, k * 4 + 3, none⟩ (.int .i64 t) = WF at E1 E2 ⊢
    go_ret
    exact ⟨.slice (some ⟨g, 0, none⟩) l.length c3, rfl, E1.out, by simp [Value.ownBlock], E2.out⟩
end Go.Proofs.Ytfggldholaibeaa
