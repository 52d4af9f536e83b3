/- The exact law of LossNew: the walk. -/
import Derived.Test.YtpbkhlkhnjmacabEqLs
import Derived.Test.YtpbkhlkhnjmacabMkLs
import Derived.Test.YtpbkhlkhnjmacabLnw
import Derived.Test.YtpbkhlkhnjmacabLaMath
namespace Go.Proofs.Ytpbkhlkhnjmacab
open Go.RowKit
set_option linter.unusedVariables false
set_option linter.unusedSimpArgs false

/-- Where the law stands: the model's answer and the program's. -/
structure NS (w W : World) (b0 b1 : Nat) (a : Option Addr) (c : Nat) : Prop where
  bel : Below w.heap.size w W
  x0 : C3 W b0 (.int .i64 0) (.slice a 0 c) (.int .i64 (-1))
  x1 : C3 W b1 (.int .i64 0) (.slice none 0 0) (.int .i64 (-1))
  k : Pks W (.slice a 0 c) []
theorem NS.below {w W W' : World} {b0 b1 : Nat} {a : Option Addr} {c : Nat} (h : NS w W b0 b1 a c) (hb : Below W.heap.size W W') : NS w W' b0 b1 a c := ⟨h.bel.trans (hb.mono h.bel.size), h.x0.below hb, h.x1.below hb, h.k.below hb⟩
theorem pks_none (W : World) : Pks W (.slice none 0 0) [] := ⟨none, 0, rfl, Nat.le_refl _, fun h => absurd rfl h⟩
theorem eqls_nil (a a' : Option Addr) (c c' : Nat) (w : World) (h : Pks w (.slice a 0 c) []) (h' : Pks w (.slice a' 0 c') []) :
    Calls Try.prog 11 #[.agg #[.int .i64 0, .slice a 0 c, .int .i64 (-1)], .agg #[.int .i64 0, .slice a' 0 c', .int .i64 (-1)]] w fun e w' => e = .returned (.bool true) ∧ Below w.heap.size w w' := eqls_any 0 (-1) [] a a' c c' w h h' (by simp)
theorem mkls_nil (w : World) : Calls Try.prog 12 #[.agg #[.int .i64 0, .slice none 0 0, .int .i64 (-1)], .int .i64 1] w fun e w' => e = .returned (.int .i64 1) ∧ Below w.heap.size w w' := by
  refine (mkls_any 0 (-1) (.slice none 0 0) [] 0 w (OwnPk.nil _ _) (by simp)).mono ?_
  rintro e w' ⟨rfl, hg, _⟩
  exact ⟨by simp, (Below.refl _ _).grown hg (Nat.le_refl _) (fun k hk => by cases hk)⟩
theorem hdls_nil (w : World) : Calls Try.prog 13 #[.agg #[.int .i64 0, .slice none 0 0, .int .i64 (-1)], .int .i64 1] w fun e w' => e = .returned (.int .i64 1) ∧ Below w.heap.size w w' := by
  refine (hdls_any 0 (-1) none 0 0 w (pks_none w) (by simp)).mono ?_
  rintro e w' ⟨rfl, hb⟩
  exact ⟨by simp, hb⟩

set_option maxRecDepth 100000 in
set_option maxHeartbeats 4000000 in
theorem exln_walk (w : World) : Calls Try.prog 3 #[] w fun e w' => e = .returned (.bool true) ∧ Below w.heap.size w w' := by
  go_enter Try.func3, Try.ntmps3
  go_wp2_with fail
  refine (snew_any _).mono ?_
  rintro e w1 ⟨v, rfl, ho, hvn, hb1⟩
  obtain ⟨a, c, rfl⟩ := ho.shape
  simp only [List.length_nil] at ho hvn ⊢
  have X1 := Lib.hid (C3.new w1 (.int .i64 0) (.slice a 0 c) (.int .i64 (-1)) 24)
  have B1 := Lib.hid (hb1.alloc hb1.size (.cells #[.int .i64 0, .slice a 0 c, .int .i64 (-1)] 24))
  have K1 := Lib.hid (ho.pks.below (below_al w1 (.cells #[.int .i64 0, .slice a 0 c, .int .i64 (-1)] 24)))
  clear ho hvn hb1
  go_wp2_with fail
  refine (inew_any _).mono ?_
  rintro e w2 ⟨rfl, hb2⟩
  have Y := Lib.hid (show NS w (w2.alloc (.cells #[.int .i64 0, .slice none 0 0, .int .i64 (-1)] 24)) w1.heap.size w2.heap.size a c from ⟨(B1.out.trans (hb2.mono B1.out.size)).alloc (B1.out.trans (hb2.mono B1.out.size)).size _, (X1.out.below hb2).alloc _, C3.new w2 _ _ _ _, (K1.out.below hb2).below (below_al _ _)⟩)
  clear hb2 X1 B1 K1
  generalize w1.heap.size = p1 at *
  obtain ⟨c0, c1, c2⟩ := Y.out.x0
  obtain ⟨d0, d1, d2⟩ := Y.out.x1
  go_wp2_with fail
  refine (eqls_nil none a 0 c _ (pks_none _) Y.out.k).mono ?_
  rintro e w3 ⟨rfl, hb3⟩
  have Y3 := Lib.hid (Y.out.below hb3)
  clear hb3 c0 c1 c2 d0 d1 d2 Y
  generalize w2.heap.size = p2 at *
  obtain ⟨d0, d1, d2⟩ := Y3.out.x1
  go_wp2_with fail
  refine (mkls_nil _).mono ?_
  rintro e w4 ⟨rfl, hb4⟩
  have Y4 := Lib.hid (Y3.out.below hb4)
  clear hb4 d0 d1 d2 Y3
  obtain ⟨d0, d1, d2⟩ := Y4.out.x1
  go_wp2_with fail
  refine (hdls_nil _).mono ?_
  rintro e w5 ⟨rfl, hb5⟩
  have Y5 := Lib.hid (Y4.out.below hb5)
  clear hb5 d0 d1 d2 Y4
  go_wp2_with fail
  refine (inew_any _).mono ?_
  rintro e w6 ⟨rfl, hb6⟩
  have Y6 := Lib.hid ((Y5.out.below hb6).below (below_al w6 (.cells #[.int .i64 0, .slice none 0 0, .int .i64 (-1)] 24)))
  have Z6 := Lib.hid (C3.new w6 (.int .i64 0) (.slice none 0 0) (.int .i64 (-1)) 24)
  clear hb6 Y5
  obtain ⟨c0, c1, c2⟩ := Y6.out.x0
  obtain ⟨d0, d1, d2⟩ := Z6.out
  go_wp2_with fail
  refine (eqls_nil none a 0 c _ (pks_none _) Y6.out.k).mono ?_
  rintro e w7 ⟨rfl, hb7⟩
  have Y7 := Lib.hid (Y6.out.below hb7)
  clear hb7 c0 c1 c2 d0 d1 d2 Y6 Z6
  obtain ⟨d0, d1, d2⟩ := Y7.out.x1
  go_wp2_with fail
  refine (hdls_nil _).mono ?_
  rintro e w8 ⟨rfl, hb8⟩
  have Y8 := Lib.hid (Y7.out.below hb8)
  clear hb8 d0 d1 d2 Y7
  go_wp2_with fail
  go_ret
  exact ⟨rfl, Y8.out.bel⟩

end Go.Proofs.Ytpbkhlkhnjmacab
