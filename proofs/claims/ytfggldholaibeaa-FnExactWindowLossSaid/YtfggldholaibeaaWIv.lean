/- The program's oneTo, isWindow, WindowsValid. -/
import Derived.Test.YtfggldholaibeaaUpTo
import Derived.Test.YtfggldholaibeaaWSay
import Derived.Test.YtfggldholaibeaaWdRow
import Derived.Test.YtfggldholaibeaaBase
import Derived.Test.YtfggldholaibeaaRtMath
namespace Go.Proofs.Ytfggldholaibeaa
open Go.RowKit
set_option linter.unusedVariables false
set_option linter.unusedSimpArgs false

set_option maxRecDepth 100000 in
set_option maxHeartbeats 1000000 in
theorem oneTo_any (n k : Int) (w : World) : Calls Try.prog 25 #[.int .i64 n, .int .i64 k] w fun e w' => e = .returned (.bool (decide (1 ≤ n ∧ n ≤ k))) ∧ w = w' := by
  by_cases h0 : 1 ≤ n
  · by_cases h1 : n ≤ k
    · have d0 := decide_eq_true h0
      have d1 := decide_eq_true h1
      go_enter Try.func25, Try.ntmps25
      go_wp2
      go_ret
      exact ⟨ret_bool (decide_eq_true ⟨h0, h1⟩).symm, rfl⟩
    · have d0 := decide_eq_true h0
      have d1 := decide_eq_false h1
      go_enter Try.func25, Try.ntmps25
      go_wp2
      go_ret
      exact ⟨ret_bool (by first | rfl | (symm; simp; omega)), rfl⟩
  · have d0 := decide_eq_false h0
    go_enter Try.func25, Try.ntmps25
    go_wp2
    go_ret
    exact ⟨ret_bool (by first | rfl | (symm; simp; omega)), rfl⟩

set_option maxRecDepth 100000 in
set_option maxHeartbeats 4000000 in
theorem iw_any (a b c d : Int) (w : World) : Calls Try.prog 28 #[.agg #[.int .i64 a, .int .i64 b, .int .i64 c, .int .i64 d]] w (BoolW w (decide (wok1 (a, b, c, d)))) := by
  rw [wok1_dec]
  have C1 : Hid (Says 25 #[.int .i64 a, .int .i64 64] (decide (1 ≤ a ∧ a ≤ 64))) := Lib.hid (oneTo_any a 64)
  have C2 : Hid (Says 25 #[.int .i64 b, .int .i64 64] (decide (1 ≤ b ∧ b ≤ 64))) := Lib.hid (oneTo_any b 64)
  have C3 : Hid (Says 39 #[.int .i64 c, .int .i64 999] (decide (0 ≤ c ∧ c ≤ 999))) := Lib.hid (upTo_any c 999)
  have C4 : Hid (Says 25 #[.int .i64 d, .int .i64 99] (decide (1 ≤ d ∧ d ≤ 99))) := Lib.hid (oneTo_any d 99)
  generalize decide (1 ≤ a ∧ a ≤ 64) = q1 at C1 ⊢
  generalize decide (1 ≤ b ∧ b ≤ 64) = q2 at C2 ⊢
  generalize decide (0 ≤ c ∧ c ≤ 999) = q3 at C3 ⊢
  generalize decide (1 ≤ d ∧ d ≤ 99) = q4 at C4 ⊢
  have B := Lib.hid ((Below.refl w.heap.size w).alloc (Nat.le_refl _) (.cells #[.int .i64 a, .int .i64 b, .int .i64 c, .int .i64 d] 35))
  have R := Lib.hid (R4.new w a b c d 35)
  obtain ⟨W, hW⟩ : ∃ W, w.alloc (.cells #[.int .i64 a, .int .i64 b, .int .i64 c, .int .i64 d] 35) = W := ⟨_, rfl⟩
  rw [hW] at B R
  have HW := Lib.hid hW
  clear hW
  obtain ⟨r0, r1, r2, r3, _⟩ := R.out
  cases q1
  · skip
    go_enter Try.func28, Try.ntmps28
    go_wp2_with fail
    rw [HW.out]
    go_wp2_with fail
    refine (C1.out _).mono ?_
    rintro e w1 ⟨rfl, rfl⟩
    go_wp2_with fail
    go_ret
    exact ⟨rfl, B.out⟩
  · skip
    cases q2
    · skip
      go_enter Try.func28, Try.ntmps28
      go_wp2_with fail
      rw [HW.out]
      go_wp2_with fail
      refine (C1.out _).mono ?_
      rintro e w1 ⟨rfl, rfl⟩
      go_wp2_with fail
      refine (C2.out _).mono ?_
      rintro e w2 ⟨rfl, rfl⟩
      go_wp2_with fail
      go_ret
      exact ⟨rfl, B.out⟩
    · skip
      cases q3
      · skip
        go_enter Try.func28, Try.ntmps28
        go_wp2_with fail
        rw [HW.out]
        go_wp2_with fail
        refine (C1.out _).mono ?_
        rintro e w1 ⟨rfl, rfl⟩
        go_wp2_with fail
        refine (C2.out _).mono ?_
        rintro e w2 ⟨rfl, rfl⟩
        go_wp2_with fail
        refine (C3.out _).mono ?_
        rintro e w3 ⟨rfl, rfl⟩
        go_wp2_with fail
        go_ret
        exact ⟨rfl, B.out⟩
      · skip
        cases q4
        · skip
          go_enter Try.func28, Try.ntmps28
          go_wp2_with fail
          rw [HW.out]
          go_wp2_with fail
          refine (C1.out _).mono ?_
          rintro e w1 ⟨rfl, rfl⟩
          go_wp2_with fail
          refine (C2.out _).mono ?_
          rintro e w2 ⟨rfl, rfl⟩
          go_wp2_with fail
          refine (C3.out _).mono ?_
          rintro e w3 ⟨rfl, rfl⟩
          go_wp2_with fail
          refine (C4.out _).mono ?_
          rintro e w4 ⟨rfl, rfl⟩
          go_wp2_with fail
          go_ret
          exact ⟨rfl, B.out⟩
        · skip
          go_enter Try.func28, Try.ntmps28
          go_wp2_with fail
          rw [HW.out]
          go_wp2_with fail
          refine (C1.out _).mono ?_
          rintro e w1 ⟨rfl, rfl⟩
          go_wp2_with fail
          refine (C2.out _).mono ?_
          rintro e w2 ⟨rfl, rfl⟩
          go_wp2_with fail
          refine (C3.out _).mono ?_
          rintro e w3 ⟨rfl, rfl⟩
          go_wp2_with fail
          refine (C4.out _).mono ?_
          rintro e w4 ⟨rfl, rfl⟩
          go_wp2_with fail
          go_ret
          exact ⟨rfl, B.out⟩

set_option maxRecDepth 100000 in
set_option maxHeartbeats 1000000 in
theorem notw_any (a b c d : Int) (w : World) : Calls Try.prog 27 #[.agg #[.int .i64 a, .int .i64 b, .int .i64 c, .int .i64 d]] w (BoolW w (!decide (wok1 (a, b, c, d)))) := by
  have B := Lib.hid ((Below.refl w.heap.size w).alloc (Nat.le_refl _) (.cells #[.int .i64 a, .int .i64 b, .int .i64 c, .int .i64 d] 35))
  have C := Lib.hid (iw_any a b c d)
  generalize decide (wok1 (a, b, c, d)) = q at C ⊢
  go_enter Try.func27, Try.ntmps27
  go_wp2_with fail
  refine (C.out _).mono ?_
  rintro e w1 ⟨rfl, hb⟩
  have B1 := Lib.hid (B.out.trans (hb.mono B.out.size))
  clear hb
  go_wp2_with fail
  go_ret
  exact ⟨rfl, B1.out⟩

def FoundW (w : World) (l : List Wd) (e : Ending) (w' : World) : Prop := ∃ z : Int, e = .returned (.int .i64 z) ∧ (0 ≤ z ↔ ∃ p ∈ l, ¬ wok1 p) ∧ Below w.heap.size w w'
set_option maxRecDepth 100000 in
set_option maxHeartbeats 2000000 in
theorem idxw_any (v : Value) (l : List Wd) (w : World) (h : Wds w v l) (hl : l.length ≤ 1048576) :
    Calls Try.prog 38 #[v, .func (.func 27) #[] #[]] w (FoundW w l) := by
  obtain ⟨a, c, rfl, hcap, h⟩ := h
  have HC := Lib.hid h
  clear h hcap
  go_enter Try.func38, Try.ntmps38
  go_wp2_with fail
  go_loopw [8] (fun iv wr => ∃ j : Nat, j ≤ l.length ∧ iv = .int .i64 (j : Int) ∧ Hid (∀ r ∈ l.take j, wok1 r) ∧ Hid (Below w.heap.size w wr)) (fun iv _ => l.length - (intOf iv).toNat)
  case atStart => exact ⟨0, Nat.zero_le _, rfl, Lib.hid (by simp), Below.refl _ _⟩
  case round =>
    obtain ⟨j, hj, rfl, HS, HB⟩ := hrel
    by_cases hlt : j < l.length
    · have hlt' : (j : Int) < (l.length : Int) := by omega
      obtain ⟨g, o, rfl, hc⟩ := HC.out (by rintro rfl; simp at hlt)
      obtain ⟨c0, c1, c2, c3⟩ := (hc j hlt).below HB.out (hc j hlt).lt
      have HTK := Lib.hid (takeW l j hlt)
      clear hc
      generalize l.getD j wdD = p at *
      obtain ⟨x, y, z, t⟩ := p
      simp only at c0 c1 c2 c3
      have CN := Lib.hid (notw_any x y z t wr)
      by_cases hok : wok1 (x, y, z, t)
      · rw [decide_eq_true hok] at CN
        have HS2 : Hid (∀ r ∈ l.take (j + 1), wok1 r) := Lib.hid (by
          rw [HTK.out.1]
          intro r hr
          rcases List.mem_append.1 hr with hr | hr
          · exact HS.out r hr
          · rw [List.mem_singleton.1 hr]; exact hok)
        clear hok
        go_wp2_with fail
        refine CN.out.mono ?_
        rintro e w1 ⟨rfl, hb⟩
        have B1 := Lib.hid (HB.out.trans (hb.mono HB.out.size))
        clear hb c0 c1 c2 c3
        go_wp2_with fail
        go_roundw
        case rel => exact ⟨j + 1, by omega, by go_num, HS2, B1⟩
        case measure => simp [intOf]; omega
      · rw [decide_eq_false hok] at CN
        have HE : Hid (0 ≤ (j : Int) ↔ ∃ r ∈ l, ¬ wok1 r) := Lib.hid ⟨fun _ => ⟨_, HTK.out.2, hok⟩, fun _ => by omega⟩
        clear hok
        go_wp2_with fail
        refine CN.out.mono ?_
        rintro e w1 ⟨rfl, hb⟩
        have B1 := Lib.hid (HB.out.trans (hb.mono HB.out.size))
        clear hb c0 c1 c2 c3
        go_wp2_with fail
        go_ret
        exact ⟨_, rfl, HE.out, B1.out⟩
    · have hlt' : ¬ (j : Int) < (l.length : Int) := by omega
      rw [List.take_of_length_le (by omega)] at HS
      go_wp2_with fail
      go_ret
      exact ⟨-1, rfl, ⟨fun h => absurd h (by decide), fun ⟨r, hr, hn⟩ => absurd (HS.out r hr) hn⟩, HB.out⟩

set_option maxRecDepth 100000 in
set_option maxHeartbeats 1000000 in
theorem hasw_any (v : Value) (l : List Wd) (w : World) (h : Wds w v l) (hl : l.length ≤ 1048576) :
    Calls Try.prog 26 #[v, .func (.func 27) #[] #[]] w (BoolW w (decide (∃ r ∈ l, ¬ wok1 r))) := by
  have CI := Lib.hid (idxw_any v l w h hl)
  obtain ⟨a, c, rfl, _, _⟩ := h
  go_enter Try.func26, Try.ntmps26
  go_wp2_with fail
  refine CI.out.mono ?_
  rintro e w1 ⟨z, rfl, hz, hb⟩
  have HZ : Hid (decide (0 ≤ z) = decide (∃ r ∈ l, ¬ wok1 r)) := Lib.hid (decide_eq_decide.2 hz)
  have B1 := Lib.hid hb
  clear hz hb
  go_wp2_with fail
  go_ret
  exact ⟨ret_bool HZ.out, B1.out⟩

theorem wok_dec (l : List Wd) : decide (wok l) = (decide (1 ≤ (l.length : Int) ∧ (l.length : Int) ≤ 4) && !decide (∃ r ∈ l, ¬ wok1 r)) := by
  rw [Bool.eq_iff_iff]
  simp only [Bool.and_eq_true, decide_eq_true_eq, Bool.not_eq_true', decide_eq_false_iff_not]
  constructor
  · rintro ⟨⟨h1, h2⟩, h3⟩
    exact ⟨⟨by omega, by omega⟩, fun ⟨r, hr, hn⟩ => hn (h3 r hr)⟩
  · rintro ⟨⟨h1, h2⟩, h3⟩
    exact ⟨⟨by omega, by omega⟩, fun r hr => Decidable.byContradiction fun hn => h3 ⟨r, hr, hn⟩⟩
set_option maxRecDepth 100000 in
set_option maxHeartbeats 1000000 in
theorem iwv_any (v : Value) (l : List Wd) (w : World) (h : Wds w v l) (hl : l.length ≤ 1048576) :
    Calls Try.prog 11 #[v] w (BoolW w (decide (wok l))) := by
  have CI := Lib.hid (hasw_any v l w h hl)
  obtain ⟨a, c, rfl, _, _⟩ := h
  rw [wok_dec]
  have C1 : Hid (Says 25 #[.int .i64 (l.length : Int), .int .i64 4] (decide (1 ≤ (l.length : Int) ∧ (l.length : Int) ≤ 4))) := Lib.hid (oneTo_any _ 4)
  generalize decide (1 ≤ (l.length : Int) ∧ (l.length : Int) ≤ 4) = q1 at C1 ⊢
  generalize decide (∃ r ∈ l, ¬ wok1 r) = q2 at CI ⊢
  cases q1
  · go_enter Try.func11, Try.ntmps11
    go_wp2_with fail
    refine (C1.out _).mono ?_
    rintro e w1 ⟨rfl, rfl⟩
    go_wp2_with fail
    go_ret
    exact ⟨rfl, Below.refl _ _⟩
  · go_enter Try.func11, Try.ntmps11
    go_wp2_with fail
    refine (C1.out _).mono ?_
    rintro e w1 ⟨rfl, rfl⟩
    go_wp2_with fail
    refine CI.out.mono ?_
    rintro e w1 ⟨rfl, hb⟩
    have B1 := Lib.hid hb
    clear hb
    go_wp2_with fail
    go_ret
    exact ⟨by simp, B1.out⟩
end Go.Proofs.Ytfggldholaibeaa
