/- szLoss, toLoss. -/
import Derived.Test.YtccolpaenmebeaaEqPks
import Derived.IntWalk
import Derived.Deep.DeepCutAuto
namespace Go.Proofs.Ytccolpaenmebeaa
open Go.RowKit
set_option linter.unusedVariables false
set_option linter.unusedSimpArgs false

theorem ret_i64 {a b : Int} (h : a = b) : Ending.returned (.int .i64 a) = .returned (.int .i64 b) := by rw [h]
def szI (n : Nat) (left : Int) : Int := if left < (n : Int) then -1 else left - (n : Int)
set_option maxRecDepth 100000 in
set_option maxHeartbeats 1000000 in
theorem szls_any (k g : Int) (a : Option Addr) (n c : Nat) (left : Int) (w : World) (h0 : 0 ≤ left) (h1 : left ≤ 1048576) (hn : n ≤ 9223372036854775807) :
    Calls Try.prog 14 #[.agg #[.int .i64 k, .slice a n c, .int .i64 g], .int .i64 left] w fun e w' => e = .returned (.int .i64 (szI n left)) ∧ Below w.heap.size w w' := by
  have HS : Hid (∀ W : World, Calls Try.prog 36 #[.slice a n c, .int .i64 left] W fun e w' => e = .returned (.int .i64 (szI n left)) ∧ W = w') := Lib.hid (fun W => szpk_any a n c left W h0 h1 hn)
  have hc : szI n left = -1 ∨ 0 ≤ szI n left := by unfold szI; split <;> omega
  generalize szI n left = z at *
  rcases hc with rfl | hz
  · go_enter Try.func14, Try.ntmps14
    go_wp2_with fail
    refine (HS.out _).mono ?_
    rintro e w' ⟨rfl, rfl⟩
    go_wp2_with fail
    go_ret
    exact ⟨rfl, (Below.refl _ _).alloc (Nat.le_refl _) _⟩
  · have hz' : ¬ z < 0 := by omega
    go_enter Try.func14, Try.ntmps14
    go_wp2_with fail
    refine (HS.out _).mono ?_
    rintro e w' ⟨rfl, rfl⟩
    go_wp2_with fail
    go_ret
    exact ⟨rfl, (Below.refl _ _).alloc (Nat.le_refl _) _⟩
theorem szI_cases (m : Nat) (n : Int) (h0 : 0 ≤ n) (h1 : n ≤ 1048576) : szI m n = -1 ∨ (0 ≤ szI m n ∧ szI m n ≤ n ∧ m ≤ 1048576) := by
  unfold szI
  split
  · exact .inl rfl
  · exact .inr ⟨by omega, by omega, by omega⟩
set_option maxRecDepth 100000 in
set_option maxHeartbeats 1000000 in
theorem tols_any (n g : Int) (xs : List Pk) (ra : Option Addr) (rc : Nat) (w : World) (h : Pks w (.slice ra xs.length rc) xs) (hl : xs.length ≤ 1048576) :
    Calls Try.prog 16 #[.agg #[.int .i64 n, .slice ra xs.length rc, .int .i64 g]] w fun e w' => ∃ b c, e = .returned (.agg #[.int .i64 n, .slice (some ⟨b, 0, none⟩) xs.length c, .int .i64 g]) ∧ Below w.heap.size w w' ∧ OwnPk w' w.heap.size (.slice (some ⟨b, 0, none⟩) xs.length c) xs := by
  have H := Lib.hid h
  clear h
  have HT := Lib.hid (fun W h => topks_any (.slice ra xs.length rc) xs W h hl)
  have FO : Hid (∀ W, W = (((w.alloc (.cells #[.int .i64 n, .slice ra xs.length rc, .int .i64 g] 31)).alloc (.cells #[.int .i64 0, .slice none 0 0, .int .i64 0] 24)).alloc (.cells #[.int .i64 n, .slice none 0 0, .int .i64 0] 24)) →
      C3 W w.heap.size (.int .i64 n) (.slice ra xs.length rc) (.int .i64 g) ∧ C3 W (w.heap.size + 1 + 1) (.int .i64 n) (.slice none 0 0) (.int .i64 0) ∧ Soft W (w.heap.size + 1 + 1) ∧ C3 W (w.heap.size + 1) (.int .i64 0) (.slice none 0 0) (.int .i64 0) ∧ Soft W (w.heap.size + 1) ∧ Below w.heap.size w W ∧ W.heap.size = w.heap.size + 3) := Lib.hid (by
    rintro W rfl
    have z1 : (w.alloc (.cells #[.int .i64 n, .slice ra xs.length rc, .int .i64 g] 31)).heap.size = w.heap.size + 1 := by simp
    generalize hq1 : w.alloc (.cells #[.int .i64 n, .slice ra xs.length rc, .int .i64 g] 31) = q1 at *
    have c1 : C3 q1 w.heap.size (.int .i64 n) (.slice ra xs.length rc) (.int .i64 g) := by rw [← hq1]; exact C3.new w _ _ _ _
    have b1 : Below w.heap.size w q1 := by rw [← hq1]; exact (Below.refl _ _).alloc (Nat.le_refl _) _
    have z2 : (q1.alloc (.cells #[.int .i64 0, .slice none 0 0, .int .i64 0] 24)).heap.size = q1.heap.size + 1 := by simp
    have b2 : Below w.heap.size w (q1.alloc (.cells #[.int .i64 0, .slice none 0 0, .int .i64 0] 24)) := b1.alloc b1.size _
    have c2 := C3.new q1 (.int .i64 0) (.slice none 0 0) (.int .i64 0) 24
    have s2 := Soft.new q1 #[.int .i64 0, .slice none 0 0, .int .i64 0] 24
    have c12 := c1.alloc (.cells #[.int .i64 0, .slice none 0 0, .int .i64 0] 24)
    generalize q1.alloc (.cells #[.int .i64 0, .slice none 0 0, .int .i64 0] 24) = q2 at *
    have c3 := C3.new q2 (.int .i64 n) (.slice none 0 0) (.int .i64 0) 24
    have s3 := Soft.new q2 #[.int .i64 n, .slice none 0 0, .int .i64 0] 24
    have ba : Below q2.heap.size q2 (q2.alloc (.cells #[.int .i64 n, .slice none 0 0, .int .i64 0] 24)) := (Below.refl _ _).alloc (Nat.le_refl _) _
    rw [z1] at z2 c2 s2
    rw [z2] at c3 s3
    refine ⟨c12.below ba, c3, s3, c2.below ba, s2.below ba (by omega), b2.alloc b2.size _, by simp; omega⟩)
  go_enter Try.func16, Try.ntmps16
  go_wp2_with fail
  generalize hWe : (((w.alloc (.cells #[.int .i64 n, .slice ra xs.length rc, .int .i64 g] 31)).alloc (.cells #[.int .i64 0, .slice none 0 0, .int .i64 0] 24)).alloc (.cells #[.int .i64 n, .slice none 0 0, .int .i64 0] 24)) = W at *
  have hF := FO.out W rfl
  clear FO hWe
  have FF := Lib.hid hF
  clear hF
  refine (HT.out _ (H.out.below (FF.out.2.2.2.2.2.1))).mono ?_
  rintro e w1 ⟨v1, rfl, hb1, ho1, hne⟩
  obtain ⟨b0, c0, rfl⟩ : ∃ b c, v1 = .slice (some ⟨b, 0, none⟩) xs.length c := by
    obtain ⟨_, ⟨e, _⟩ | ⟨g, c, cur, e, _⟩⟩ := ho1
    · exact absurd e hne
    · exact ⟨g, c, e⟩
  have hz := FF.out.2.2.2.2.2.2
  have hb0 := (World.ownsRow.lt ho1 b0 rfl).1
  have A1 := Lib.hid (FF.out.1.below hb1)
  have f1 := FF.out.2.1.below hb1
  have t1 := FF.out.2.2.1.below hb1 FF.out.2.1.lt
  have f3 := FF.out.2.2.2.1.below hb1
  have t3 := FF.out.2.2.2.2.1.below hb1 FF.out.2.2.2.1.lt
  have hn21 : w.heap.size + 1 + 1 ≠ w.heap.size + 1 := by omega
  have hnb2 : (Value.slice (some ⟨b0, 0, none⟩) xs.length c0).ownBlock ≠ some (w.heap.size + 1 + 1) := by simp only [Value.ownBlock, ne_eq, Option.some.injEq]; omega
  have HNB := Lib.hid (show (Value.slice (some ⟨b0, 0, none⟩) xs.length c0).ownBlock ≠ some (w.heap.size + 1) by simp only [Value.ownBlock, ne_eq, Option.some.injEq]; omega)
  have F1 := Lib.hid ((f1.set1 (.slice (some ⟨b0, 0, none⟩) xs.length c0)).set2 (.int .i64 g))
  have F3 := Lib.hid ((f3.far (c := w.heap.size + 1 + 1) (i := 1) (x := .slice (some ⟨b0, 0, none⟩) xs.length c0) hn21).far (c := w.heap.size + 1 + 1) (i := 2) (x := .int .i64 g) hn21)
  have T3 := Lib.hid ((t3.set ⟨w.heap.size + 1 + 1, 1, none⟩ (.slice (some ⟨b0, 0, none⟩) xs.length c0)).set ⟨w.heap.size + 1 + 1, 2, none⟩ (.int .i64 g))
  have B1 := Lib.hid (((FF.out.2.2.2.2.2.1.trans (hb1.mono FF.out.2.2.2.2.2.1.size)).setCell (p := ⟨w.heap.size + 1 + 1, 1, none⟩) (by show w.heap.size ≤ w.heap.size + 1 + 1; omega) (.slice (some ⟨b0, 0, none⟩) xs.length c0)).setCell (p := ⟨w.heap.size + 1 + 1, 2, none⟩) (by show w.heap.size ≤ w.heap.size + 1 + 1; omega) (.int .i64 g))
  have O1 := Lib.hid (((ho1.lower (B' := w.heap.size) (by omega)).far (i := 1) (u := .slice (some ⟨b0, 0, none⟩) xs.length c0) hnb2).far (i := 2) (u := .int .i64 g) hnb2)
  obtain ⟨c5, c6, c7⟩ := f1
  have a2 := A1.out.c2
  have t5 := t1 1
  have t6 := t1 2
  clear f3 t1 t3 hb1 ho1 hne hb0 hz hn21 hnb2 A1
  have a3 : (w1.setCell ⟨w.heap.size + 1 + 1, 1, none⟩ (.slice (some ⟨b0, 0, none⟩) xs.length c0)).cell? ⟨w.heap.size, 2, none⟩ = some (.int .i64 g) := (World.cell?_setCell_other _ _ _ _ (by simp only [ne_eq, Addr.mk.injEq]; omega)).trans a2
  clear a2
  go_upto_region 5 with fail
  generalize ((w1.setCell ⟨w.heap.size + 1 + 1, 1, none⟩ (.slice (some ⟨b0, 0, none⟩) xs.length c0)).setCell ⟨w.heap.size + 1 + 1, 2, none⟩ (.int .i64 g)) = W1 at *
  obtain ⟨p0, p1, p2⟩ := id F1.out
  obtain ⟨r0, r1, r2⟩ := id F3.out
  have t0 := T3.out 0
  have t1 := T3.out 1
  have t2 := T3.out 2
  have RC6 : Hid (C3 (((W1.setCell ⟨w.heap.size + 1, 0, none⟩ (.int .i64 n)).setCell ⟨w.heap.size + 1, 1, none⟩ (.slice (some ⟨b0, 0, none⟩) xs.length c0)).setCell ⟨w.heap.size + 1, 2, none⟩ (.int .i64 g)) (w.heap.size + 1) (.int .i64 n) (.slice (some ⟨b0, 0, none⟩) xs.length c0) (.int .i64 g)) := Lib.hid (((F3.out.set0 (.int .i64 n)).set1 (.slice (some ⟨b0, 0, none⟩) xs.length c0)).set2 (.int .i64 g))
  have B6 : Hid (Below w.heap.size w (((W1.setCell ⟨w.heap.size + 1, 0, none⟩ (.int .i64 n)).setCell ⟨w.heap.size + 1, 1, none⟩ (.slice (some ⟨b0, 0, none⟩) xs.length c0)).setCell ⟨w.heap.size + 1, 2, none⟩ (.int .i64 g))) := Lib.hid (Below.setCell (Below.setCell (Below.setCell B1.out (Nat.le_succ _) _) (Nat.le_succ _) _) (Nat.le_succ _) _)
  have O6 : Hid (OwnPk (((W1.setCell ⟨w.heap.size + 1, 0, none⟩ (.int .i64 n)).setCell ⟨w.heap.size + 1, 1, none⟩ (.slice (some ⟨b0, 0, none⟩) xs.length c0)).setCell ⟨w.heap.size + 1, 2, none⟩ (.int .i64 g)) w.heap.size (.slice (some ⟨b0, 0, none⟩) xs.length c0) xs) := Lib.hid (((O1.out.far HNB.out).far HNB.out).far HNB.out)
  clear c5 c6 c7 t5 t6 a3
  go_wp2_with fail
  generalize (((W1.setCell ⟨w.heap.size + 1, 0, none⟩ (.int .i64 n)).setCell ⟨w.heap.size + 1, 1, none⟩ (.slice (some ⟨b0, 0, none⟩) xs.length c0)).setCell ⟨w.heap.size + 1, 2, none⟩ (.int .i64 g)) = W6 at *
  obtain ⟨s0, s1, s2⟩ := id RC6.out
  refine bodyPost_ret (v := .agg #[.int .i64 n, (.slice (some ⟨b0, 0, none⟩) xs.length c0), .int .i64 g]) ?hr rfl ?_
  case hr => rw [results_cell_1r rfl]; go_simp
  exact ⟨b0, c0, rfl, B6.out, O6.out⟩
end Go.Proofs.Ytccolpaenmebeaa
