/- The drawn arguments of LossTimer. -/
import Derived.Test.YtpbkhlkhnjmacaaDrLa
namespace Go.Proofs.Ytpbkhlkhnjmacaa
open Go.RowKit
set_option linter.unusedVariables false
set_option linter.unusedSimpArgs false

theorem keep_set1 {w : World} {b c i : Nat} {v : Value} (h : c ≠ b) : (w.setCell ⟨c, i, none⟩ v).heap[b]? = w.heap[b]? := by
  unfold World.setCell
  simp only
  rw [Array.getElem?_modify, if_neg h]
theorem five_at (w : World) (y : Int) (p : Nat) (hp : (p : Int) < 5) : ∃ v : Int, (w.alloc (.cells #[.int .i64 0, .int .i64 1, .int .i64 1998, .int .i64 1999, .int .i64 y] 3)).cell? ⟨w.heap.size, p, none⟩ = some (.int .i64 v) ∧ ∀ h, ([.int .i64 0, .int .i64 1, .int .i64 1998, .int .i64 1999, .int .i64 y] : List Value)[p]'h = .int .i64 v := by
  rcases (by omega : p = 0 ∨ p = 1 ∨ p = 2 ∨ p = 3 ∨ p = 4) with rfl | rfl | rfl | rfl | rfl
  · exact ⟨0, by rw [World.cell?_alloc_mark]; rfl, fun _ => rfl⟩
  · exact ⟨1, by rw [World.cell?_alloc_mark]; rfl, fun _ => rfl⟩
  · exact ⟨1998, by rw [World.cell?_alloc_mark]; rfl, fun _ => rfl⟩
  · exact ⟨1999, by rw [World.cell?_alloc_mark]; rfl, fun _ => rfl⟩
  · exact ⟨y, by rw [World.cell?_alloc_mark]; rfl, fun _ => rfl⟩
theorem set3_cell {W : World} {rb c i : Nat} {v a1 a2 a3 : Value} (h : W.cell? ⟨c, i, none⟩ = some v) (hne : rb ≠ c) : (((W.setCell ⟨rb, 0, none⟩ a1).setCell ⟨rb, 1, none⟩ a2).setCell ⟨rb, 2, none⟩ a3).cell? ⟨c, i, none⟩ = some v := by
  have st : ∀ (V : World) (j : Nat) (x : Value), V.cell? ⟨c, i, none⟩ = some v → (V.setCell ⟨rb, j, none⟩ x).cell? ⟨c, i, none⟩ = some v := fun V j x hv => (World.cell?_of_block (w := V) (keep_set1 hne)).trans hv
  exact st _ _ _ (st _ _ _ (st _ _ _ h))
def GotTimer (w : World) (e : Ending) (w' : World) : Prop :=
  ∃ (n g t : Int) (v : Value) (l : List Pk), e = .returned (.tuple #[.agg #[.int .i64 n, v, .int .i64 g], .int .i64 t]) ∧ GotLs w n g v l w'
set_option maxRecDepth 100000 in
set_option maxHeartbeats 4000000 in
theorem drtimer_any (a : Option Addr) (len cap : Nat) (zs : List Int) (w : World) (h : IsRow .u8 w a len cap zs) :
    Calls Try.prog 32 #[.slice a len cap] w (GotTimer w) := by
  have U0 : Below w.heap.size w (w.alloc (.cells #[.int .i64 0, .slice none 0 0, .int .i64 0] 25)) := below_al _ _
  have H := Lib.hid (h.keep (w' := w.alloc (.cells #[.int .i64 0, .slice none 0 0, .int .i64 0] 25)) fun x hx hc i v hv => cell_old _ hv)
  have Z0 := Lib.hid (C3.new w (.int .i64 0) (.slice none 0 0) (.int .i64 0) 25)
  have F0 := Lib.hid (Soft.new w #[.int .i64 0, .slice none 0 0, .int .i64 0] 25)
  have HS0 := Lib.hid (show (w.alloc (.cells #[.int .i64 0, .slice none 0 0, .int .i64 0] 25)).heap.size = w.heap.size + 1 by simp)
  have UU := Lib.hid U0
  clear h U0
  go_enter Try.func32, Try.ntmps32
  go_wp2_with fail
  refine (open_any a len cap zs _ H.out).mono ?_
  rintro e w1 ⟨rfl, hb, hR⟩
  have hb1 := Lib.hid (UU.out.trans (hb.mono (by have := HS0.out; omega)))
  have Z1 := Lib.hid (Z0.out.below hb)
  have F1 := Lib.hid (F0.out.below hb Z0.out.lt)
  have RR := Lib.hid hR
  rw [HS0.out] at RR ⊢
  clear hb hR
  go_wp2_with fail
  refine (drls_any _ _ _ RR.out (by omega)).mono ?_
  rintro e w2 ⟨n, g, s, l, rfl, hn, hg, hl, hO, hnn, hg2, hR2⟩
  have D := Lib.hid (DS.start (n := n) (g := g) (Nat.le_refl _) (show w.heap.size < w.heap.size + 1 by omega) hb1.out Z1.out F1.out RR.out.1 hg2 hR2 hO hnn 25)
  obtain ⟨ax, cx, rfl⟩ := ownsRow_shape hO
  clear hO hnn hg2 hR2 hb1 Z1 F1 RR Z0 F0 H UU HS0
  go_upto_region 3 with fail
  generalize w2.alloc (.cells #[.int .i64 n, .slice ax l.length cx, .int .i64 g] 25) = W3 at D ⊢
  generalize w2.heap.size = xb at D ⊢
  generalize w.heap.size + 1 = b at D ⊢
  have Dd := Lib.hid D.out.drew
  obtain ⟨q0, q1, q2⟩ := Dd.out.x
  have HB := Lib.hid (show b < W3.heap.size from D.out.rd.1)
  have HRB := Lib.hid (show w.heap.size < W3.heap.size from D.out.zer.lt)
  have hl1 : (1 : Int) ≤ 100 := by omega
  have hh1 : (100 : Int) ≤ 1000000 := by omega
  have hl2 : (1 : Int) ≤ 5 := by omega
  have hh2 : (5 : Int) ≤ 1000000 := by omega
  have hk1 : 0 + 200 ≤ 1000000 := by omega
  have hk2 : 0 + 200 + 1 ≤ 1000000 := by omega
  go_region_law ((first
    | (go_simp; (with_reducible refine at_world W3.drew ?_); (with_reducible refine (pick_rdr _ _ _ _ Dd.out.rd hl1 hh1 hk1).mono ?_); rintro e w7 ⟨p1, hp1, rfl, hg7, hR7⟩; have D7 := Lib.hid (Dd.out.pick hg7 hR7); have k0 := D7.out.x.c0; have k1 := D7.out.x.c1; have k2 := D7.out.x.c2; have S7 := Lib.hid hg7.size; have D8 := Lib.hid (D7.out.below (below_al w7 (.cells #[.int .i64 0, .int .i64 1, .int .i64 1998, .int .i64 1999, .int .i64 (IntKind.i64.wrap (1 + (p1 : Int)))] 3))); have m0 := D8.out.x.c0; have m1 := D8.out.x.c1; have m2 := D8.out.x.c2)
    | (go_simp; (with_reducible refine at_world w7 ?_); (with_reducible refine (pick_rdr _ _ _ _ D7.out.rd hl2 hh2 hk2).mono ?_); rintro e w8 ⟨p2, hp2, rfl, hg8, hR8⟩; have D9 := Lib.hid (D7.out.pick hg8 hR8); have j0 := D9.out.x.c0; have j1 := D9.out.x.c1; have j2 := D9.out.x.c2; obtain ⟨v, hv, hL⟩ := five_at w8 (IntKind.i64.wrap (1 + (p1 : Int))) p2 hp2; have S8 := Lib.hid hg8.size; have hvS := set3_cell (rb := w.heap.size) (a1 := .int .i64 n) (a2 := .slice ax l.length cx) (a3 := .int .i64 g) hv (by have := HRB.out; have := S7.out; have := S8.out; simp at *; omega); have D10 := Lib.hid (D9.out.below (below_al w8 (.cells #[.int .i64 0, .int .i64 1, .int .i64 1998, .int .i64 1999, .int .i64 (IntKind.i64.wrap (1 + (p1 : Int)))] 3))); have i0 := D10.out.x.c0; have i1 := D10.out.x.c1; have i2 := D10.out.x.c2; have z0 := D10.out.zer.c0; have z1 := D10.out.zer.c1; have z2 := D10.out.zer.c2; have f0 := D10.out.zf 0; have f1 := D10.out.zf 1; have f2 := D10.out.zf 2; have y0 := D9.out.zer.c0; have y1 := D9.out.zer.c1; have y2 := D9.out.zer.c2; have g0 := D9.out.zf 0; have g1 := D9.out.zf 1; have g2 := D9.out.zf 2; have hp5 : p2 < 5 := (by omega); have HL5 := Lib.hid hL; clear hL)
    | (go_simp; (with_reducible refine at_world (w7.alloc (.cells #[.int .i64 0, .int .i64 1, .int .i64 1998, .int .i64 1999, .int .i64 (IntKind.i64.wrap (1 + (p1 : Int)))] 3)) ?_); have D8 := Lib.hid (D7.out.below (below_al w7 (.cells #[.int .i64 0, .int .i64 1, .int .i64 1998, .int .i64 1999, .int .i64 (IntKind.i64.wrap (1 + (p1 : Int)))] 3))); (with_reducible refine (pick_rdr _ _ _ _ D8.out.rd hl2 hh2 hk2).mono ?_); rintro e w8 ⟨p2, hp2, rfl, hg8, hR8⟩; have D10 := Lib.hid (D8.out.pick hg8 hR8); obtain ⟨v, hv0, hL⟩ := five_at w7 (IntKind.i64.wrap (1 + (p1 : Int))) p2 hp2; have hv := hg8.cell hv0 (fun e => by have := Option.some.inj e; have := HB.out; have := S7.out; simp at *; omega); have hvS := set3_cell (rb := w.heap.size) (a1 := .int .i64 n) (a2 := .slice ax l.length cx) (a3 := .int .i64 g) hv (by have := HRB.out; have := S7.out; simp at *; omega); have i0 := D10.out.x.c0; have i1 := D10.out.x.c1; have i2 := D10.out.x.c2; have z0 := D10.out.zer.c0; have z1 := D10.out.zer.c1; have z2 := D10.out.zer.c2; have f0 := D10.out.zf 0; have f1 := D10.out.zf 1; have f2 := D10.out.zf 2; have hp5 : p2 < 5 := (by omega); have HL5 := Lib.hid hL; clear hL)))
  all_goals
    have hne := D.out.ne.1
    go_wp2_with fail
    first
      | have KE := Lib.hid D10.out.fin
        generalize ((w8.setCell ⟨w.heap.size, 0, none⟩ (.int .i64 n)).setCell ⟨w.heap.size, 1, none⟩ (.slice ax l.length cx)).setCell ⟨w.heap.size, 2, none⟩ (.int .i64 g) = WF at KE ⊢
        obtain ⟨e0, e1, e2⟩ := KE.out.1
        refine bodyPost_ret (v := .tuple #[.agg #[.int .i64 n, .slice ax l.length cx, .int .i64 g], .int .i64 v]) ?hr rfl ?_
        case hr => rw [results_cts rfl]; go_simp; all_goals (exact HL5.out _)
        exact ⟨n, g, v, _, l, rfl, hl, KE.out.2.2.1, hne, KE.out.2.1⟩
      | have KE := Lib.hid D10.out.fin
        generalize (((w8.alloc (.cells #[.int .i64 0, .int .i64 1, .int .i64 1998, .int .i64 1999, .int .i64 (IntKind.i64.wrap (1 + (p1 : Int)))] 3)).setCell ⟨w.heap.size, 0, none⟩ (.int .i64 n)).setCell ⟨w.heap.size, 1, none⟩ (.slice ax l.length cx)).setCell ⟨w.heap.size, 2, none⟩ (.int .i64 g) = WF at KE ⊢
        obtain ⟨e0, e1, e2⟩ := KE.out.1
        refine bodyPost_ret (v := .tuple #[.agg #[.int .i64 n, .slice ax l.length cx, .int .i64 g], .int .i64 v]) ?hr rfl ?_
        case hr => rw [results_cts rfl]; go_simp; all_goals (exact HL5.out _)
        exact ⟨n, g, v, _, l, rfl, hl, KE.out.2.2.1, hne, KE.out.2.1⟩
      | have KF := Lib.hid D9.out.fin
        have KE := Lib.hid (And.intro (KF.out.1.alloc (.cells #[.int .i64 0, .int .i64 1, .int .i64 1998, .int .i64 1999, .int .i64 (IntKind.i64.wrap (1 + (p1 : Int)))] 3)) (And.intro (KF.out.2.1.alloc KF.out.2.1.size (.cells #[.int .i64 0, .int .i64 1, .int .i64 1998, .int .i64 1999, .int .i64 (IntKind.i64.wrap (1 + (p1 : Int)))] 3)) (And.intro (KF.out.2.2.1.below (below_al _ (.cells #[.int .i64 0, .int .i64 1, .int .i64 1998, .int .i64 1999, .int .i64 (IntKind.i64.wrap (1 + (p1 : Int)))] 3))) trivial)))
        generalize (((w8.setCell ⟨w.heap.size, 0, none⟩ (.int .i64 n)).setCell ⟨w.heap.size, 1, none⟩ (.slice ax l.length cx)).setCell ⟨w.heap.size, 2, none⟩ (.int .i64 g)).alloc (.cells #[.int .i64 0, .int .i64 1, .int .i64 1998, .int .i64 1999, .int .i64 (IntKind.i64.wrap (1 + (p1 : Int)))] 3) = WF at KE ⊢
        obtain ⟨e0, e1, e2⟩ := KE.out.1
        refine bodyPost_ret (v := .tuple #[.agg #[.int .i64 n, .slice ax l.length cx, .int .i64 g], .int .i64 v]) ?hr rfl ?_
        case hr => rw [results_cts rfl]; go_simp; all_goals (exact HL5.out _)
        exact ⟨n, g, v, _, l, rfl, hl, KE.out.2.2.1, hne, KE.out.2.1⟩

end Go.Proofs.Ytpbkhlkhnjmacaa
