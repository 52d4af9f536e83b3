/- The exact law of RecvNew: the walk. -/
import Derived.Test.YthdhjjbgegcncaaExRcq
namespace Go.Proofs.Ythdhjjbgegcncaa
open Go.RowKit
set_option linter.unusedVariables false
set_option linter.unusedSimpArgs false

set_option maxRecDepth 100000 in
set_option maxHeartbeats 1000000 in
theorem snew2_any (n : Int) (w : World) :
    Calls Try.prog 10 #[.int .i64 n] w fun e w' => ∃ v, e = .returned (.tuple #[.agg #[.int .i64 0, v, .int .i64 (if 0 ≤ n ∧ n ≤ 30 then -1 else 0), .int .i64 (if 0 ≤ n ∧ n ≤ 30 then n else 0)], .bool (decide (0 ≤ n ∧ n ≤ 30))]) ∧ Below w.heap.size w w' ∧ OwnPc w' w.heap.size v [] := by
  by_cases h : 0 ≤ n ∧ n ≤ 30
  · rw [if_pos h, if_pos h, decide_eq_true h]
    exact (snew_any n w h.1 h.2).mono fun e w' k => by
      obtain ⟨v, k1, k2, k3, _⟩ := k
      exact ⟨v, k1, k2, k3⟩
  · rw [if_neg h, if_neg h]
    have C1 := Lib.hid (fun W => l6In_any n 0 30 W)
    rw [decide_eq_false h] at C1 ⊢
    clear h
    go_enter Try.func10, Try.ntmps10
    go_wp2_with fail
    refine (C1.out _).mono ?_
    rintro e w1 ⟨rfl, rfl⟩
    go_wp2_with fail
    refine bodyPost_ret (v := .tuple #[.agg #[.int .i64 0, .slice none 0 0, .int .i64 0, .int .i64 0], .bool false]) ?hr rfl ?_
    case hr => rw [results_cell_tmp rfl]; go_simp
    exact ⟨_, rfl, by first | exact Below.refl _ _ | exact (Below.refl _ _).alloc (Nat.le_refl _) _, OwnPc.nil _ _⟩
structure XN (w W : World) (fi li : Int) (v2 v4 : Value) (p2 p4 : Nat) : Prop where
  bel : Below w.heap.size w W
  x2 : C4 W p2 (.int .i64 0) v2 (.int .i64 fi) (.int .i64 li)
  x4 : C4 W p4 (.int .i64 0) v4 (.int .i64 fi) (.int .i64 li)
  o2 : OwnPc W 0 v2 []
  o4 : OwnPc W 0 v4 []
theorem XN.below {w W W' : World} {fi li : Int} {v2 v4 : Value} {p2 p4 : Nat} (h : XN w W fi li v2 v4 p2 p4) (hb : Below W.heap.size W W') : XN w W' fi li v2 v4 p2 p4 :=
  ⟨h.bel.trans (hb.mono h.bel.size), h.x2.below hb, h.x4.below hb, h.o2.below hb, h.o4.below hb⟩
theorem XN.grown {w W W' : World} {fi li : Int} {v2 : Value} {p2 p4 : Nat} (h : XN w W fi li v2 (.slice none 0 0) p2 p4) (hg : W.grownBy W' none) : XN w W' fi li v2 (.slice none 0 0) p2 p4 :=
  ⟨h.bel.grown hg h.bel.size (fun j hj => by cases hj), h.x2.kept hg (by simp), h.x4.kept hg (by simp), World.ownsRow.kept h.o2 hg (by
    cases hq : v2.ownBlock with
    | none => exact .inl rfl
    | some g => exact .inr (by simp)), OwnPc.nil _ _⟩
set_option maxRecDepth 100000 in
set_option maxHeartbeats 4000000 in
theorem exrcn_walk (n : Int) (w : World) : Calls Try.prog 3 #[.int .i64 n] w fun e w' => e = .returned (.bool true) ∧ Below w.heap.size w w' := by
  have S1 := Lib.hid (snew2_any n w)
  have IN := Lib.hid (fun W => irecvnew_any n W)
  generalize (if 0 ≤ n ∧ n ≤ 30 then (-1 : Int) else 0) = fi at *
  generalize (if 0 ≤ n ∧ n ≤ 30 then n else 0) = li at *
  generalize decide (0 ≤ n ∧ n ≤ 30) = q at *
  have hqq : (q != q) = false := by cases q <;> rfl
  go_enter Try.func3, Try.ntmps3
  go_wp2_with fail
  refine S1.out.mono ?_
  rintro e w1 ⟨v2, rfl, hb1, ho2⟩
  have B1 := Lib.hid (hb1.alloc hb1.size (.cells #[.int .i64 0, v2, .int .i64 fi, .int .i64 li] 24))
  have X1 := Lib.hid (C4.new w1 (.int .i64 0) v2 (.int .i64 fi) (.int .i64 li) 24)
  have O1 := Lib.hid ((OwnPc.zero ho2).below ((Below.refl _ _).alloc (Nat.le_refl _) (.cells #[.int .i64 0, v2, .int .i64 fi, .int .i64 li] 24)))
  obtain ⟨a2, k2, rfl⟩ := OwnPc.shape ho2
  clear hb1 ho2 S1
  go_wp2_with fail
  refine (IN.out _).mono ?_
  rintro e w2 ⟨rfl, hb2⟩
  have U2 : Hid (Below w2.heap.size w2 (w2.alloc (.cells #[.int .i64 0, .slice none 0 0, .int .i64 fi, .int .i64 li] 24))) := Lib.hid ((Below.refl _ _).alloc (Nat.le_refl _) _)
  have hb3 := hb2.trans (U2.out.mono hb2.size)
  have X : Hid (XN w (w2.alloc (.cells #[.int .i64 0, .slice none 0 0, .int .i64 fi, .int .i64 li] 24)) fi li (.slice a2 ([] : List Pc).length k2) (.slice none 0 0) w1.heap.size w2.heap.size) := Lib.hid
    ⟨B1.out.trans (hb3.mono B1.out.size), X1.out.below hb3, C4.new w2 (.int .i64 0) (.slice none 0 0) (.int .i64 fi) (.int .i64 li) 24, O1.out.below hb3, OwnPc.nil _ _⟩
  clear hb2 hb3 U2 X1 O1 B1
  simp only [List.length_nil] at X
  have EQ := Lib.hid (fun (W : World) (x : XN w W fi li (.slice a2 0 k2) (.slice none 0 0) w1.heap.size w2.heap.size) => eqrc_any 0 fi li (.slice none 0 0) (.slice a2 0 k2) [] W x.o4.n x.o2.n (by simp))
  have MK := Lib.hid (fun (W : World) => mkrc_any 0 fi li (.slice none 0 0) [] 0 W (OwnPc.nil _ _) (by simp))
  have HD := Lib.hid (fun (W : World) => hdrc_any 0 fi li none 0 0 W (Pcn.nil W) (by omega))
  simp only [List.length_nil, Int.natCast_zero, Int.mul_zero, Int.add_zero] at MK HD
  obtain ⟨⟨c0, c1, c2, c3⟩, ⟨d0, d1, d2, d3⟩⟩ := And.intro X.out.x2 X.out.x4
  go_wp2_with fail
  refine (EQ.out _ X.out).mono ?_
  rintro e w3 ⟨rfl, hb3⟩
  have X3 := Lib.hid (X.out.below hb3)
  clear hb3 c0 c1 c2 c3 d0 d1 d2 d3 X
  obtain ⟨⟨c0, c1, c2, c3⟩, ⟨d0, d1, d2, d3⟩⟩ := And.intro X3.out.x2 X3.out.x4
  go_wp2_with fail
  refine (MK.out _).mono ?_
  rintro e w4 ⟨rfl, hg4, _⟩
  have X4 := Lib.hid (X3.out.grown hg4)
  clear hg4 c0 c1 c2 c3 d0 d1 d2 d3 X3
  obtain ⟨⟨c0, c1, c2, c3⟩, ⟨d0, d1, d2, d3⟩⟩ := And.intro X4.out.x2 X4.out.x4
  go_wp2_with fail
  refine (HD.out _).mono ?_
  rintro e w5 ⟨rfl, hb5⟩
  have X5 := Lib.hid (X4.out.below hb5)
  clear hb5 c0 c1 c2 c3 d0 d1 d2 d3 X4
  obtain ⟨⟨c0, c1, c2, c3⟩, ⟨d0, d1, d2, d3⟩⟩ := And.intro X5.out.x2 X5.out.x4
  go_wp2_with fail
  refine (IN.out _).mono ?_
  rintro e w6 ⟨rfl, hb6⟩
  have U6 : Hid (Below w6.heap.size w6 (w6.alloc (.cells #[.int .i64 0, .slice none 0 0, .int .i64 fi, .int .i64 li] 24))) := Lib.hid ((Below.refl _ _).alloc (Nat.le_refl _) _)
  have X6 := Lib.hid ((X5.out.below hb6).below U6.out)
  have Z6 := Lib.hid (C4.new w6 (.int .i64 0) (.slice none 0 0) (.int .i64 fi) (.int .i64 li) 24)
  clear hb6 c0 c1 c2 c3 d0 d1 d2 d3 X5 U6
  obtain ⟨⟨c0, c1, c2, c3⟩, ⟨d0, d1, d2, d3⟩⟩ := And.intro X6.out.x2 X6.out.x4
  obtain ⟨e0, e1, e2, e3⟩ := Z6.out
  go_wp2_with fail
  refine (EQ.out _ X6.out).mono ?_
  rintro e w7 ⟨rfl, hb7⟩
  have X7 := Lib.hid (X6.out.below hb7)
  clear hb7 c0 c1 c2 c3 d0 d1 d2 d3 e0 e1 e2 e3 X6 Z6
  obtain ⟨⟨c0, c1, c2, c3⟩, ⟨d0, d1, d2, d3⟩⟩ := And.intro X7.out.x2 X7.out.x4
  go_wp2_with fail
  refine (HD.out _).mono ?_
  rintro e w8 ⟨rfl, hb8⟩
  have X8 := Lib.hid (X7.out.below hb8)
  clear hb8 c0 c1 c2 c3 d0 d1 d2 d3 X7
  go_wp2_with fail
  go_ret
  exact ⟨rfl, X8.out.bel⟩

end Go.Proofs.Ythdhjjbgegcncaa
