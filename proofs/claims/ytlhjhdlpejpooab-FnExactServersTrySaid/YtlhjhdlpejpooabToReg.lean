/- szRegister, toRegister. -/
import Derived.Test.YtlhjhdlpejpooabEqTs
import Derived.Test.YtlhjhdlpejpooabFrm
import Derived.Test.YtlhjhdlpejpooabRpMath
import Derived.IntWalk
import Derived.Deep.DeepCutAuto
namespace Go.Proofs.Ytlhjhdlpejpooab
open Go.RowKit
set_option linter.unusedVariables false
set_option linter.unusedSimpArgs false

theorem ret_i64 {a b : Int} (h : a = b) : Ending.returned (.int .i64 a) = .returned (.int .i64 b) := by rw [h]
theorem results_cell_1r {fn : Func} {p : Tmp} {ty : TypeId} (h : fn.results = #[.cell p ty]) (tmps : Array Value) (P : Program) (w : World) :
    (results fn tmps).run P w = ((asAddr (tmps.getD p undef)).run P w).andThen fun a w₁ => (loadVar ty a).run P w₁ := by
  simp only [results, h]
  simp [Sem.run_bind, Result.andThen]
def szI (n : Nat) (left : Int) : Int := if left < (n : Int) then -1 else left - (n : Int)
set_option maxRecDepth 100000 in
set_option maxHeartbeats 1000000 in
theorem szreg_any (k : Int) (a : Option Addr) (n c : Nat) (left : Int) (w : World) (h0 : 0 ≤ left) (h1 : left ≤ 1048576) (hn : n ≤ 9223372036854775807) :
    Calls Try.prog 10 #[.agg #[.int .i64 k, .slice a n c], .int .i64 left] w fun e w' => e = .returned (.int .i64 (szI n left)) ∧ Below w.heap.size w w' := by
  have HS : Hid (∀ W : World, Calls Try.prog 37 #[.slice a n c, .int .i64 left] W fun e w' => e = .returned (.int .i64 (szI n left)) ∧ W = w') := Lib.hid (fun W => sz_any a n c left W h0 h1 hn)
  have hc : szI n left = -1 ∨ 0 ≤ szI n left := by unfold szI; split <;> omega
  generalize szI n left = z at *
  rcases hc with rfl | hz
  · go_enter Try.func10, Try.ntmps10
    go_wp2_with fail
    refine (HS.out _).mono ?_
    rintro e w' ⟨rfl, rfl⟩
    go_wp2_with fail
    go_ret
    exact ⟨rfl, (Below.refl _ _).alloc (Nat.le_refl _) _⟩
  · have hz' : ¬ z < 0 := by omega
    go_enter Try.func10, Try.ntmps10
    go_wp2_with fail
    refine (HS.out _).mono ?_
    rintro e w' ⟨rfl, rfl⟩
    go_wp2_with fail
    go_ret
    exact ⟨rfl, (Below.refl _ _).alloc (Nat.le_refl _) _⟩
theorem szI_cases (m : Nat) (n : Int) (h0 : 0 ≤ n) (h1 : n ≤ 1048576) : szI m n = -1 ∨ (0 ≤ szI m n ∧ szI m n ≤ n ∧ m ≤ 1048576) := by
  unfold szI
  split
  · exact .inl rfl
  · exact .inr ⟨by omega, by omega, by omega⟩
set_option maxRecDepth 100000 in
set_option maxHeartbeats 1000000 in
theorem toreg_any (k : Int) (xs : List Tic) (ra : Option Addr) (rc : Nat) (w : World) (h : Tics w (.slice ra xs.length rc) xs) (hl : xs.length ≤ 1048576) :
    Calls Try.prog 12 #[.agg #[.int .i64 k, .slice ra xs.length rc]] w fun e w' => ∃ b c, e = .returned (.agg #[.int .i64 k, .slice (some ⟨b, 0, none⟩) xs.length c]) ∧ Below w.heap.size w w' ∧ OwnTc w' w.heap.size (.slice (some ⟨b, 0, none⟩) xs.length c) xs := by
  have H := Lib.hid h
  clear h
  have HT := Lib.hid (fun W h => tots_any (.slice ra xs.length rc) xs W h hl)
  have FO : Hid (∀ W, W = (((w.alloc (.cells #[.int .i64 k, .slice ra xs.length rc] 24)).alloc (.cells #[.int .i64 0, .slice none 0 0] 28)).alloc (.cells #[.int .i64 k, .slice none 0 0] 28)) →
      Frm W (w.heap.size + 1 + 1) [.int .i64 k, .slice none 0 0] ∧ Thaw W (w.heap.size + 1 + 1) ∧ Frm W (w.heap.size + 1) [.int .i64 0, .slice none 0 0] ∧ Thaw W (w.heap.size + 1) ∧ Below w.heap.size w W ∧ W.heap.size = w.heap.size + 3) := Lib.hid (by
    rintro W rfl
    have z1 : (w.alloc (.cells #[.int .i64 k, .slice ra xs.length rc] 24)).heap.size = w.heap.size + 1 := by simp
    have z2 : ((w.alloc (.cells #[.int .i64 k, .slice ra xs.length rc] 24)).alloc (.cells #[.int .i64 0, .slice none 0 0] 28)).heap.size = w.heap.size + 1 + 1 := by simp
    have b3 : Below ((w.alloc (.cells #[.int .i64 k, .slice ra xs.length rc] 24)).alloc (.cells #[.int .i64 0, .slice none 0 0] 28)).heap.size ((w.alloc (.cells #[.int .i64 k, .slice ra xs.length rc] 24)).alloc (.cells #[.int .i64 0, .slice none 0 0] 28)) (((w.alloc (.cells #[.int .i64 k, .slice ra xs.length rc] 24)).alloc (.cells #[.int .i64 0, .slice none 0 0] 28)).alloc (.cells #[.int .i64 k, .slice none 0 0] 28)) := (Below.refl _ _).alloc (Nat.le_refl _) _
    have g1 := Frm.new ((w.alloc (.cells #[.int .i64 k, .slice ra xs.length rc] 24)).alloc (.cells #[.int .i64 0, .slice none 0 0] 28)) 28 [.int .i64 k, .slice none 0 0]
    have g2 := Thaw.new ((w.alloc (.cells #[.int .i64 k, .slice ra xs.length rc] 24)).alloc (.cells #[.int .i64 0, .slice none 0 0] 28)) 28 [.int .i64 k, .slice none 0 0]
    have g3 := Frm.new (w.alloc (.cells #[.int .i64 k, .slice ra xs.length rc] 24)) 28 [.int .i64 0, .slice none 0 0]
    have g4 := Thaw.new (w.alloc (.cells #[.int .i64 k, .slice ra xs.length rc] 24)) 28 [.int .i64 0, .slice none 0 0]
    rw [z2] at g1 g2
    rw [z1] at g3 g4
    exact ⟨g1, g2, Frm.below g3 b3 (by omega), Thaw.below g4 b3 (by omega), ((((Below.refl w.heap.size w).alloc (Nat.le_refl _) _).alloc (by omega) _).trans (b3.mono (by omega))), by simp⟩)
  go_enter Try.func12, Try.ntmps12
  go_wp2_with fail
  generalize hWe : (((w.alloc (.cells #[.int .i64 k, .slice ra xs.length rc] 24)).alloc (.cells #[.int .i64 0, .slice none 0 0] 28)).alloc (.cells #[.int .i64 k, .slice none 0 0] 28)) = W at *
  have hF := FO.out W rfl
  clear FO hWe
  have FF := Lib.hid hF
  clear hF
  refine (HT.out _ (H.out.below FF.out.2.2.2.2.1)).mono ?_
  rintro e w1 ⟨v1, rfl, hb1, ho1, hne⟩
  obtain ⟨b0, c0, rfl⟩ : ∃ b c, v1 = .slice (some ⟨b, 0, none⟩) xs.length c := by
    obtain ⟨_, ⟨e, _⟩ | ⟨g, c, cur, e, _⟩⟩ := ho1
    · exact absurd e hne
    · exact ⟨g, c, e⟩
  have hz := FF.out.2.2.2.2.2
  have hb1s := hb1.size
  have f1 := Frm.below FF.out.1 hb1 (by omega)
  have f2 := Thaw.below FF.out.2.1 hb1 (by omega)
  have f3 := Frm.below FF.out.2.2.1 hb1 (by omega)
  have f4 := Thaw.below FF.out.2.2.2.1 hb1 (by omega)
  have hb0 := (World.ownsRow.lt ho1 b0 rfl).1
  have F1 := Lib.hid (f1.set (i := 1) (by simp) (.slice (some ⟨b0, 0, none⟩) xs.length c0))
  have hne21 : w.heap.size + 1 + 1 ≠ w.heap.size + 1 := by omega
  have F3 := Lib.hid (f3.far (i := 1) hne21 (.slice (some ⟨b0, 0, none⟩) xs.length c0))
  have T3 := Lib.hid (f4.set ⟨w.heap.size + 1 + 1, 1, none⟩ (.slice (some ⟨b0, 0, none⟩) xs.length c0))
  have B1 : Hid (Below w.heap.size w (w1.setCell ⟨w.heap.size + 1 + 1, 1, none⟩ (.slice (some ⟨b0, 0, none⟩) xs.length c0))) := Lib.hid ((FF.out.2.2.2.2.1.trans (hb1.mono FF.out.2.2.2.2.1.size)).setCell (by show w.heap.size ≤ w.heap.size + 1 + 1; omega) _)
  have ho1' : OwnTc w1 w.heap.size (.slice (some ⟨b0, 0, none⟩) xs.length c0) xs := OwnTc.lower ho1 (by omega)
  have O1 : Hid (OwnTc (w1.setCell ⟨w.heap.size + 1 + 1, 1, none⟩ (.slice (some ⟨b0, 0, none⟩) xs.length c0)) w.heap.size (.slice (some ⟨b0, 0, none⟩) xs.length c0) xs) := Lib.hid (own_far ho1' (fun g hg => by simp only [Value.ownBlock] at hg; injection hg with hg; omega))
  have HBB : Hid (w.heap.size + 1 ≠ b0) := Lib.hid (by omega)
  obtain ⟨c5, t5⟩ : w1.cell? ⟨w.heap.size + 1 + 1, 1, none⟩ = some (.slice none 0 0) ∧ w1.frozen? ⟨w.heap.size + 1 + 1, 1, none⟩ = false := ⟨f1 1, f2 1⟩
  clear f1 f2 f3 f4 hb1 ho1 ho1' hne hb0 hb1s hz
  go_upto_region 4 with fail
  generalize (w1.setCell ⟨w.heap.size + 1 + 1, 1, none⟩ (.slice (some ⟨b0, 0, none⟩) xs.length c0)) = W1 at *
  obtain ⟨p0, p1⟩ : W1.cell? ⟨w.heap.size + 1 + 1, 0, none⟩ = some (.int .i64 k) ∧ W1.cell? ⟨w.heap.size + 1 + 1, 1, none⟩ = some (.slice (some ⟨b0, 0, none⟩) xs.length c0) := ⟨F1.out 0, F1.out 1⟩
  obtain ⟨r0, r1⟩ : W1.cell? ⟨w.heap.size + 1, 0, none⟩ = some (.int .i64 0) ∧ W1.cell? ⟨w.heap.size + 1, 1, none⟩ = some (.slice none 0 0) := ⟨F3.out 0, F3.out 1⟩
  obtain ⟨t0, t1⟩ : W1.frozen? ⟨w.heap.size + 1, 0, none⟩ = false ∧ W1.frozen? ⟨w.heap.size + 1, 1, none⟩ = false := ⟨T3.out 0, T3.out 1⟩
  have RC6 : Hid (Frm ((W1.setCell ⟨w.heap.size + 1, 0, none⟩ (.int .i64 k)).setCell ⟨w.heap.size + 1, 1, none⟩ (.slice (some ⟨b0, 0, none⟩) xs.length c0)) (w.heap.size + 1) [.int .i64 k, .slice (some ⟨b0, 0, none⟩) xs.length c0]) := Lib.hid ((F3.out.set (i := 0) (by simp) (.int .i64 k)).set (i := 1) (by simp) (.slice (some ⟨b0, 0, none⟩) xs.length c0))
  have B6 : Hid (Below w.heap.size w ((W1.setCell ⟨w.heap.size + 1, 0, none⟩ (.int .i64 k)).setCell ⟨w.heap.size + 1, 1, none⟩ (.slice (some ⟨b0, 0, none⟩) xs.length c0))) := Lib.hid (Below.setCell (Below.setCell B1.out (Nat.le_succ _) _) (Nat.le_succ _) _)
  have O6 : Hid (OwnTc ((W1.setCell ⟨w.heap.size + 1, 0, none⟩ (.int .i64 k)).setCell ⟨w.heap.size + 1, 1, none⟩ (.slice (some ⟨b0, 0, none⟩) xs.length c0)) w.heap.size (.slice (some ⟨b0, 0, none⟩) xs.length c0) xs) := Lib.hid (own_far (own_far O1.out (fun g hg => by simp only [Value.ownBlock] at hg; injection hg with hg; rw [← hg]; exact HBB.out)) (fun g hg => by simp only [Value.ownBlock] at hg; injection hg with hg; rw [← hg]; exact HBB.out))
  clear c5 t5
  go_wp2_with fail
  generalize ((W1.setCell ⟨w.heap.size + 1, 0, none⟩ (.int .i64 k)).setCell ⟨w.heap.size + 1, 1, none⟩ (.slice (some ⟨b0, 0, none⟩) xs.length c0)) = W6 at *
  obtain ⟨s0, s1⟩ : W6.cell? ⟨w.heap.size + 1, 0, none⟩ = some (.int .i64 k) ∧ W6.cell? ⟨w.heap.size + 1, 1, none⟩ = some (.slice (some ⟨b0, 0, none⟩) xs.length c0) := ⟨RC6.out 0, RC6.out 1⟩
  refine bodyPost_ret (v := .agg #[.int .i64 k, .slice (some ⟨b0, 0, none⟩) xs.length c0]) ?hr rfl ?_
  case hr => rw [results_cell_1r rfl]; go_simp
  exact ⟨b0, c0, rfl, B6.out, O6.out⟩
end Go.Proofs.Ytlhjhdlpejpooab
