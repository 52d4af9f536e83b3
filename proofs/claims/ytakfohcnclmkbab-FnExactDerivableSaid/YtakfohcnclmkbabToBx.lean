/- szIntS, szBox, szBoxS, toBox, toBoxS. -/
import Derived.Test.YtakfohcnclmkbabCopy
import Derived.Test.YtakfohcnclmkbabFrm
import Derived.Test.YtakfohcnclmkbabOwnB
import Derived.IntWalk
import Derived.Deep.DeepCutAuto
namespace Go.Proofs.Ytakfohcnclmkbab
open Go.RowKit
set_option linter.unusedVariables false
set_option linter.unusedSimpArgs false

theorem ret_i64 {a b : Int} (h : a = b) : Ending.returned (.int .i64 a) = .returned (.int .i64 b) := by rw [h]
theorem results_cell_1 {fn : Func} {p : Tmp} {ty : TypeId} (h : fn.results = #[.cell p ty]) (tmps : Array Value) (P : Program) (w : World) :
    (results fn tmps).run P w = ((asAddr (tmps.getD p undef)).run P w).andThen fun a w₁ => (loadVar ty a).run P w₁ := by
  simp only [results, h]
  simp [Sem.run_bind, Result.andThen]
def szI (n : Nat) (left : Int) : Int := if left - (n : Int) < 0 then -1 else left - (n : Int)
set_option maxRecDepth 100000 in
set_option maxHeartbeats 1000000 in
theorem szint_any (a : Option Addr) (n c : Nat) (left : Int) (w : World) (h0 : 0 ≤ left) (h1 : left ≤ 1048576) (hn : n ≤ 9223372036854775807) :
    Calls Try.prog 41 #[.slice a n c, .int .i64 left] w fun e w' => e = .returned (.int .i64 (szI n left)) ∧ w = w' := by
  have v1 : IntKind.i64.wrap (left - (n : Int)) = left - (n : Int) := IntWalk.i64_in _ (by omega)
  by_cases hneg : left - (n : Int) < 0
  · have HZ : Hid (szI n left = -1) := Lib.hid (if_pos hneg)
    go_enter Try.func41, Try.ntmps41
    go_wp2_with fail
    go_ret
    exact ⟨ret_i64 HZ.out.symm, rfl⟩
  · have HZ : Hid (szI n left = left - (n : Int)) := Lib.hid (if_neg hneg)
    go_enter Try.func41, Try.ntmps41
    go_wp2_with fail
    go_ret
    exact ⟨ret_i64 HZ.out.symm, rfl⟩
set_option maxRecDepth 100000 in
set_option maxHeartbeats 1000000 in
theorem szbox_any (k : Int) (a : Option Addr) (n c : Nat) (left : Int) (w : World) (h0 : 0 ≤ left) (h1 : left ≤ 1048576) (hn : n ≤ 9223372036854775807) :
    Calls Try.prog 26 #[.agg #[.int .i64 k, .slice a n c], .int .i64 left] w fun e w' => e = .returned (.int .i64 (szI n left)) ∧ Below w.heap.size w w' := by
  have HS := Lib.hid (fun W => szint_any a n c left W h0 h1 hn)
  have hc : szI n left = -1 ∨ 0 ≤ szI n left := by unfold szI; split <;> omega
  generalize szI n left = z at *
  rcases hc with rfl | hz
  · go_enter Try.func26, Try.ntmps26
    go_wp2_with fail
    refine (HS.out _).mono ?_
    rintro e w' ⟨rfl, rfl⟩
    go_wp2_with fail
    go_ret
    exact ⟨rfl, (Below.refl _ _).alloc (Nat.le_refl _) _⟩
  · have hz' : ¬ z < 0 := by omega
    go_enter Try.func26, Try.ntmps26
    go_wp2_with fail
    refine (HS.out _).mono ?_
    rintro e w' ⟨rfl, rfl⟩
    go_wp2_with fail
    go_ret
    exact ⟨rfl, (Below.refl _ _).alloc (Nat.le_refl _) _⟩
def SzsPost (w : World) (l : List Bx) (e : Ending) (w' : World) : Prop := ∃ n : Int, e = .returned (.int .i64 n) ∧ Below w.heap.size w w' ∧ (n < 0 ∨ (¬ n < 0 ∧ l.length ≤ 1048576 ∧ ∀ b ∈ l, b.2.length ≤ 1048576))
theorem szI_cases (m : Nat) (n : Int) (h0 : 0 ≤ n) (h1 : n ≤ 1048576) : szI m n = -1 ∨ (0 ≤ szI m n ∧ szI m n ≤ n ∧ m ≤ 1048576) := by
  unfold szI
  split
  · exact .inl rfl
  · exact .inr ⟨by omega, by omega, by omega⟩
set_option maxRecDepth 100000 in
set_option maxHeartbeats 2000000 in
theorem szbs_any (v : Value) (l : List Bx) (w : World) (h : Bxs w v l) (hl : l.length ≤ 9223372036854775807) (hlen : ∀ b ∈ l, b.2.length ≤ 9223372036854775807) :
    Calls Try.prog 8 #[v, .int .i64 1048576] w (SzsPost w l) := by
  obtain ⟨a, c, rfl, h⟩ := h
  have HC := Lib.hid h
  have HLN := Lib.hid hlen
  clear h hlen
  have v1 : IntKind.i64.wrap (1048576 - (l.length : Int)) = 1048576 - (l.length : Int) := IntWalk.i64_in _ (by omega)
  by_cases hneg : 1048576 - (l.length : Int) < 0
  · go_enter Try.func8, Try.ntmps8
    go_wp2_with fail
    go_ret
    exact ⟨-1, rfl, Below.refl _ _, .inl (by omega)⟩
  go_enter Try.func8, Try.ntmps8
  go_wp2_with fail
  go_loopw [1, 5] (fun kv iv wr => ∃ (j : Nat) (n : Int), j ≤ l.length ∧ iv = .int .i64 (j : Int) ∧ kv = .int .i64 n ∧ (0 ≤ n ∧ n ≤ 1048576) ∧ Hid (∀ b ∈ l.take j, b.2.length ≤ 1048576) ∧ Hid (Below w.heap.size w wr)) (fun _ iv _ => l.length - (intOf iv).toNat)
  case atStart => exact ⟨0, 1048576 - (l.length : Int), Nat.zero_le _, rfl, rfl, by omega, fun f hf => by simp at hf, Below.refl _ _⟩
  case round =>
    obtain ⟨j, n, hj, rfl, rfl, hn, HS, HB⟩ := hrel
    by_cases hlt : j < l.length
    · have hlt' : (j : Int) < (l.length : Int) := by omega
      obtain ⟨g, o, rfl, hc⟩ := HC.out (by rintro rfl; simp at hlt)
      obtain ⟨ra, rc, hf⟩ := hc j hlt
      have hfw := hf.below HB.out
      have hbd := HLN.out _ (takeB l j hlt).2
      have HTK := Lib.hid (takeB l j hlt).1
      generalize l.getD j bxD = f at *
      obtain ⟨key, ins⟩ := f
      obtain ⟨c0, c1, hr⟩ := hfw
      simp only at c0 c1 hbd
      have HZ := Lib.hid (fun W => szbox_any key ra ins.length rc n W hn.1 hn.2 hbd)
      have hcs := szI_cases ins.length n hn.1 hn.2
      generalize szI ins.length n = z at *
      clear hf hc hr hbd
      go_wp2_with fail
      refine (HZ.out _).mono ?_
      rintro e w1 ⟨rfl, hb1⟩
      have HB1 := Lib.hid (HB.out.trans (hb1.mono HB.out.size))
      clear hb1 c0 c1
      rcases hcs with hcs | ⟨q0, q1, q2⟩
      · subst hcs
        go_wp2_with fail
        go_ret
        exact ⟨-1, rfl, HB1.out, .inl (by omega)⟩
      · have hz0 : ¬ z < 0 := by omega
        have HS2 : Hid (∀ f ∈ l.take (j + 1), f.2.length ≤ 1048576) := Lib.hid (fun f' hf' => by
          rw [HTK.out] at hf'
          rcases List.mem_append.1 hf' with hf' | hf'
          · exact HS.out f' hf'
          · have : f' = (key, ins) := by simpa using hf'
            subst this; exact q2)
        go_wp2_with fail
        go_roundw
        case rel => exact ⟨j + 1, z, by omega, by go_num, rfl, by omega, HS2, HB1⟩
        case measure => simp [intOf]; omega
    · have hlt' : ¬ (j : Int) < (l.length : Int) := by omega
      have HS2 : Hid (∀ f ∈ l, f.2.length ≤ 1048576) := Lib.hid (by have := HS.out; rw [List.take_of_length_le (by omega)] at this; exact this)
      go_wp2_with fail
      go_ret
      exact ⟨n, rfl, HB.out, .inr ⟨by omega, by omega, HS2.out⟩⟩

set_option maxRecDepth 100000 in
set_option maxHeartbeats 1000000 in
theorem tobx_any (k : Int) (xs : List Int) (ra : Option Addr) (rc : Nat) (w : World) (h : Ints w (.slice ra xs.length rc) xs) (hl : xs.length ≤ 1048576) :
    Calls Try.prog 29 #[.agg #[.int .i64 k, .slice ra xs.length rc]] w fun e w' => ∃ b c, e = .returned (.agg #[.int .i64 k, .slice (some ⟨b, 0, none⟩) xs.length c]) ∧ Below w.heap.size w w' ∧ OwnI w' w.heap.size (.slice (some ⟨b, 0, none⟩) xs.length c) xs := by
  have H := Lib.hid h
  clear h
  have HT := Lib.hid (fun W h => toInt_any (.slice ra xs.length rc) xs W h hl)
  have FO : Hid (∀ W, W = (((w.alloc (.cells #[.int .i64 k, .slice ra xs.length rc] 41)).alloc (.cells #[.int .i64 0, .slice none 0 0] 43)).alloc (.cells #[.int .i64 k, .slice none 0 0] 43)) →
      Frm W (w.heap.size + 1 + 1) [.int .i64 k, .slice none 0 0] ∧ Thaw W (w.heap.size + 1 + 1) ∧ Frm W (w.heap.size + 1) [.int .i64 0, .slice none 0 0] ∧ Thaw W (w.heap.size + 1) ∧ Below w.heap.size w W ∧ W.heap.size = w.heap.size + 3) := Lib.hid (by
    rintro W rfl
    have z1 : (w.alloc (.cells #[.int .i64 k, .slice ra xs.length rc] 41)).heap.size = w.heap.size + 1 := by simp
    have z2 : ((w.alloc (.cells #[.int .i64 k, .slice ra xs.length rc] 41)).alloc (.cells #[.int .i64 0, .slice none 0 0] 43)).heap.size = w.heap.size + 1 + 1 := by simp
    have b3 : Below ((w.alloc (.cells #[.int .i64 k, .slice ra xs.length rc] 41)).alloc (.cells #[.int .i64 0, .slice none 0 0] 43)).heap.size ((w.alloc (.cells #[.int .i64 k, .slice ra xs.length rc] 41)).alloc (.cells #[.int .i64 0, .slice none 0 0] 43)) (((w.alloc (.cells #[.int .i64 k, .slice ra xs.length rc] 41)).alloc (.cells #[.int .i64 0, .slice none 0 0] 43)).alloc (.cells #[.int .i64 k, .slice none 0 0] 43)) := (Below.refl _ _).alloc (Nat.le_refl _) _
    have g1 := Frm.new ((w.alloc (.cells #[.int .i64 k, .slice ra xs.length rc] 41)).alloc (.cells #[.int .i64 0, .slice none 0 0] 43)) 43 [.int .i64 k, .slice none 0 0]
    have g2 := Thaw.new ((w.alloc (.cells #[.int .i64 k, .slice ra xs.length rc] 41)).alloc (.cells #[.int .i64 0, .slice none 0 0] 43)) 43 [.int .i64 k, .slice none 0 0]
    have g3 := Frm.new (w.alloc (.cells #[.int .i64 k, .slice ra xs.length rc] 41)) 43 [.int .i64 0, .slice none 0 0]
    have g4 := Thaw.new (w.alloc (.cells #[.int .i64 k, .slice ra xs.length rc] 41)) 43 [.int .i64 0, .slice none 0 0]
    rw [z2] at g1 g2
    rw [z1] at g3 g4
    exact ⟨g1, g2, Frm.below g3 b3 (by omega), Thaw.below g4 b3 (by omega), ((((Below.refl w.heap.size w).alloc (Nat.le_refl _) _).alloc (by omega) _).trans (b3.mono (by omega))), by simp⟩)
  go_enter Try.func29, Try.ntmps29
  go_wp2_with fail
  generalize hWe : (((w.alloc (.cells #[.int .i64 k, .slice ra xs.length rc] 41)).alloc (.cells #[.int .i64 0, .slice none 0 0] 43)).alloc (.cells #[.int .i64 k, .slice none 0 0] 43)) = W at *
  have hF := FO.out W rfl
  clear FO hWe
  have FF := Lib.hid hF
  clear hF
  refine (HT.out _ (H.out.below FF.out.2.2.2.2.1)).mono ?_
  rintro e w1 ⟨v1, rfl, hb1, ho1, hne⟩
  obtain ⟨b0, c0, rfl⟩ : ∃ b c, v1 = .slice (some ⟨b, 0, none⟩) xs.length c := by
    obtain ⟨_, ⟨e, _⟩ | ⟨g, c, cur, e, _⟩⟩ := ho1
    · exact absurd e hne
    · exact ⟨g, c, e⟩
  have hz := FF.out.2.2.2.2.2
  have hb1s := hb1.size
  have f1 := Frm.below FF.out.1 hb1 (by omega)
  have f2 := Thaw.below FF.out.2.1 hb1 (by omega)
  have f3 := Frm.below FF.out.2.2.1 hb1 (by omega)
  have f4 := Thaw.below FF.out.2.2.2.1 hb1 (by omega)
  have hb0 := (World.ownsRow.lt ho1 b0 rfl).1
  have F1 := Lib.hid (f1.set (i := 1) (by simp) (.slice (some ⟨b0, 0, none⟩) xs.length c0))
  have hne21 : w.heap.size + 1 + 1 ≠ w.heap.size + 1 := by omega
  have F3 := Lib.hid (f3.far (i := 1) hne21 (.slice (some ⟨b0, 0, none⟩) xs.length c0))
  have T3 := Lib.hid (f4.set ⟨w.heap.size + 1 + 1, 1, none⟩ (.slice (some ⟨b0, 0, none⟩) xs.length c0))
  have B1 : Hid (Below w.heap.size w (w1.setCell ⟨w.heap.size + 1 + 1, 1, none⟩ (.slice (some ⟨b0, 0, none⟩) xs.length c0))) := Lib.hid ((FF.out.2.2.2.2.1.trans (hb1.mono FF.out.2.2.2.2.1.size)).setCell (by show w.heap.size ≤ w.heap.size + 1 + 1; omega) _)
  have ho1' : OwnI w1 w.heap.size (.slice (some ⟨b0, 0, none⟩) xs.length c0) xs := OwnI.base ho1 (by omega)
  have O1 : Hid (OwnI (w1.setCell ⟨w.heap.size + 1 + 1, 1, none⟩ (.slice (some ⟨b0, 0, none⟩) xs.length c0)) w.heap.size (.slice (some ⟨b0, 0, none⟩) xs.length c0) xs) := Lib.hid (own_far ho1' (fun g hg => by simp only [Value.ownBlock] at hg; injection hg with hg; omega))
  have HBB : Hid (w.heap.size + 1 ≠ b0) := Lib.hid (by omega)
  obtain ⟨c5, t5⟩ : w1.cell? ⟨w.heap.size + 1 + 1, 1, none⟩ = some (.slice none 0 0) ∧ w1.frozen? ⟨w.heap.size + 1 + 1, 1, none⟩ = false := ⟨f1 1, f2 1⟩
  clear f1 f2 f3 f4 hb1 ho1 ho1' hne hb0 hb1s hz
  go_upto_region 4 with fail
  generalize (w1.setCell ⟨w.heap.size + 1 + 1, 1, none⟩ (.slice (some ⟨b0, 0, none⟩) xs.length c0)) = W1 at *
  obtain ⟨p0, p1⟩ : W1.cell? ⟨w.heap.size + 1 + 1, 0, none⟩ = some (.int .i64 k) ∧ W1.cell? ⟨w.heap.size + 1 + 1, 1, none⟩ = some (.slice (some ⟨b0, 0, none⟩) xs.length c0) := ⟨F1.out 0, F1.out 1⟩
  obtain ⟨r0, r1⟩ : W1.cell? ⟨w.heap.size + 1, 0, none⟩ = some (.int .i64 0) ∧ W1.cell? ⟨w.heap.size + 1, 1, none⟩ = some (.slice none 0 0) := ⟨F3.out 0, F3.out 1⟩
  obtain ⟨t0, t1⟩ : W1.frozen? ⟨w.heap.size + 1, 0, none⟩ = false ∧ W1.frozen? ⟨w.heap.size + 1, 1, none⟩ = false := ⟨T3.out 0, T3.out 1⟩
  have RC6 : Hid (Frm ((W1.setCell ⟨w.heap.size + 1, 0, none⟩ (.int .i64 k)).setCell ⟨w.heap.size + 1, 1, none⟩ (.slice (some ⟨b0, 0, none⟩) xs.length c0)) (w.heap.size + 1) [.int .i64 k, .slice (some ⟨b0, 0, none⟩) xs.length c0]) := Lib.hid ((F3.out.set (i := 0) (by simp) (.int .i64 k)).set (i := 1) (by simp) (.slice (some ⟨b0, 0, none⟩) xs.length c0))
  have B6 : Hid (Below w.heap.size w ((W1.setCell ⟨w.heap.size + 1, 0, none⟩ (.int .i64 k)).setCell ⟨w.heap.size + 1, 1, none⟩ (.slice (some ⟨b0, 0, none⟩) xs.length c0))) := Lib.hid (Below.setCell (Below.setCell B1.out (Nat.le_succ _) _) (Nat.le_succ _) _)
  have O6 : Hid (OwnI ((W1.setCell ⟨w.heap.size + 1, 0, none⟩ (.int .i64 k)).setCell ⟨w.heap.size + 1, 1, none⟩ (.slice (some ⟨b0, 0, none⟩) xs.length c0)) w.heap.size (.slice (some ⟨b0, 0, none⟩) xs.length c0) xs) := Lib.hid (own_far (own_far O1.out (fun g hg => by simp only [Value.ownBlock] at hg; injection hg with hg; rw [← hg]; exact HBB.out)) (fun g hg => by simp only [Value.ownBlock] at hg; injection hg with hg; rw [← hg]; exact HBB.out))
  clear c5 t5
  go_wp2_with fail
  generalize ((W1.setCell ⟨w.heap.size + 1, 0, none⟩ (.int .i64 k)).setCell ⟨w.heap.size + 1, 1, none⟩ (.slice (some ⟨b0, 0, none⟩) xs.length c0)) = W6 at *
  obtain ⟨s0, s1⟩ : W6.cell? ⟨w.heap.size + 1, 0, none⟩ = some (.int .i64 k) ∧ W6.cell? ⟨w.heap.size + 1, 1, none⟩ = some (.slice (some ⟨b0, 0, none⟩) xs.length c0) := ⟨RC6.out 0, RC6.out 1⟩
  refine bodyPost_ret (v := .agg #[.int .i64 k, .slice (some ⟨b0, 0, none⟩) xs.length c0]) ?hr rfl ?_
  case hr => rw [results_cell_1 rfl]; go_simp
  exact ⟨b0, c0, rfl, B6.out, O6.out⟩
end Go.Proofs.Ytakfohcnclmkbab
