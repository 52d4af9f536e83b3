/- Chapter 4, the model's: which frames are valid. -/
import Derived.Test.YtifohfclgonhfaaSVar
import Derived.Test.YtifohfclgonhfaaFrMath
import Derived.Test.YtifohfclgonhfaaRg
namespace Go.Proofs.Ytifohfclgonhfaa
open Go.RowKit
set_option linter.unusedVariables false
set_option linter.unusedSimpArgs false

/-- A frame as a value, its ranges at v. -/
def frV (f : Fr) (v : Value) : Value := .agg #[.int .i64 f.k, .int .i64 f.a, .int .i64 f.b, .int .i64 f.c, .string f.d, v]

theorem bne_of {a b : Int} (h : a ≠ b) : (a == b) = false := by rw [beq_eq_false_iff_ne]; exact h

set_option maxRecDepth 100000 in
set_option maxHeartbeats 1000000 in
theorem snum_any (k : Int) (w : World) : Calls Try.prog 49 #[.int .i64 k] w fun e w' => e = .returned (.int .i64 (fnum k : Int)) ∧ w = w' := by
  by_cases h0 : k = 0
  · subst h0
    go_enter Try.func49, Try.ntmps49
    go_wp2
    go_ret
    exact ⟨rfl, rfl⟩
  have e0 := bne_of h0
  by_cases h1 : k = 1
  · subst h1
    go_enter Try.func49, Try.ntmps49
    go_wp2
    go_ret
    exact ⟨rfl, rfl⟩
  have e1 := bne_of h1
  by_cases h9 : k = 9
  · subst h9
    go_enter Try.func49, Try.ntmps49
    go_wp2
    go_ret
    exact ⟨rfl, rfl⟩
  have e9 := bne_of h9
  by_cases h3 : k = 3
  · subst h3
    go_enter Try.func49, Try.ntmps49
    go_wp2
    go_ret
    exact ⟨rfl, rfl⟩
  have e3 := bne_of h3
  by_cases h4 : k = 4
  · subst h4
    go_enter Try.func49, Try.ntmps49
    go_wp2
    go_ret
    exact ⟨rfl, rfl⟩
  have e4 := bne_of h4
  by_cases h7 : k = 7
  · subst h7
    go_enter Try.func49, Try.ntmps49
    go_wp2
    go_ret
    exact ⟨rfl, rfl⟩
  have e7 := bne_of h7
  have H : Hid (fnum k = 1) := Lib.hid (by unfold fnum; rw [if_neg (by omega), if_neg (by omega), if_neg (by omega)])
  clear h0 h1 h9 h3 h4 h7
  go_enter Try.func49, Try.ntmps49
  go_wp2
  go_ret
  exact ⟨ret_int (by rw [H.out]; rfl), rfl⟩

/-- A truth comes back, nothing that was there is turned. -/
def BoolPost (w : World) (b : Bool) (e : Ending) (w' : World) : Prop := e = .returned (.bool b) ∧ Below w.heap.size w w'
theorem BoolPost.of {w w' : World} {b c : Bool} (h : b = c) (hb : Below w.heap.size w w') : BoolPost w c (.returned (.bool b)) w' := ⟨by rw [h], hb⟩

set_option maxRecDepth 100000 in
set_option maxHeartbeats 1000000 in
theorem sfld_2 (f : Fr) (v : Value) (w : World) (hk : f.k = 2) (h : Rngs w v f.rs) (hl : f.rs.length ≤ 1048576) : Calls Try.prog 50 #[frV f v] w (BoolPost w (ffld f)) := by
  cases f with | mk k a b c d rs =>
  simp only at hk h hl
  subst hk
  have HF : Hid (ffld ⟨2, a, b, c, d, rs⟩ = (decide (0 ≤ a ∧ a ≤ 3) && (decide (0 < rs.length) && rvalid rs))) := Lib.hid rfl
  unfold frV
  have HR := Lib.hid h
  obtain ⟨ra, rc, rfl, hr⟩ := h
  clear hr
  by_cases ha : 0 ≤ a ∧ a ≤ 3
  · have HA := Lib.hid (decide_eq_true ha)
    clear ha
    by_cases hp : 0 < rs.length
    · have hp' : (0 : Int) < (rs.length : Int) := by omega
      have HP := Lib.hid (decide_eq_true hp)
      go_enter Try.func50, Try.ntmps50
      go_wp2_with fail
      refine (l6In_any _ _ _ _).mono ?_
      rw [HA.out]
      rintro e w' ⟨rfl, rfl⟩
      go_wp2_with fail
      refine (svalid_any _ rs _ (HR.out.below ((Below.refl _ _).alloc (Nat.le_refl _) _)) hl).mono ?_
      rintro e w' ⟨rfl, hb⟩
      have HB := Lib.hid (((Below.refl w.heap.size w).alloc (Nat.le_refl _) _).trans (hb.mono (by simp)))
      clear hb
      go_wp2_with fail
      go_ret
      exact BoolPost.of (by rw [HF.out, HA.out, HP.out]; rfl) HB.out
    · have hp' : ¬ (0 : Int) < (rs.length : Int) := by omega
      have HP := Lib.hid (decide_eq_false hp)
      go_enter Try.func50, Try.ntmps50
      go_wp2_with fail
      refine (l6In_any _ _ _ _).mono ?_
      rw [HA.out]
      rintro e w' ⟨rfl, rfl⟩
      go_wp2_with fail
      go_ret
      exact BoolPost.of (by rw [HF.out, HA.out, HP.out]; rfl) ((Below.refl _ _).alloc (Nat.le_refl _) _)
  · have HA := Lib.hid (decide_eq_false ha)
    clear ha
    go_enter Try.func50, Try.ntmps50
    go_wp2_with fail
    refine (l6In_any _ _ _ _).mono ?_
    rw [HA.out]
    rintro e w' ⟨rfl, rfl⟩
    go_wp2_with fail
    go_ret
    exact BoolPost.of (by rw [HF.out, HA.out]; rfl) ((Below.refl _ _).alloc (Nat.le_refl _) _)


set_option maxRecDepth 100000 in
set_option maxHeartbeats 1000000 in
theorem sfld_3 (f : Fr) (v : Value) (w : World) (hk : f.k = 3) (hd : f.d.size ≤ 2097152) : Calls Try.prog 50 #[frV f v] w (BoolPost w (ffld f)) := by
  cases f with | mk k a b c d rs =>
  simp only at hk hd
  subst hk
  have HF : Hid (ffld ⟨3, a, b, c, d, rs⟩ = decide ((0 ≤ a ∧ a ≤ 2) ∧ (0 ≤ b ∧ b ≤ 30) ∧ (0 ≤ c ∧ c ≤ 1) ∧ b + (d.size : Int) ≤ 30)) := Lib.hid rfl
  unfold frV
  by_cases ha : 0 ≤ a ∧ a ≤ 2
  · have HA := Lib.hid (decide_eq_true ha)
    by_cases hb : 0 ≤ b ∧ b ≤ 30
    · have HB := Lib.hid (decide_eq_true hb)
      by_cases hc : 0 ≤ c ∧ c ≤ 1
      · have HC := Lib.hid (decide_eq_true hc)
        have HR : Hid (decide ((0 ≤ a ∧ a ≤ 2) ∧ (0 ≤ b ∧ b ≤ 30) ∧ (0 ≤ c ∧ c ≤ 1) ∧ b + (d.size : Int) ≤ 30) = decide (b + (d.size : Int) ≤ 30)) := Lib.hid (by rw [decide_eq_decide]; exact ⟨fun h => h.2.2.2, fun h => ⟨ha, hb, hc, h⟩⟩)
        have hw : IntKind.i64.wrap (b + (d.size : Int)) = b + (d.size : Int) := IntWalk.i64_in _ (by omega)
        clear ha hb hc hd
        go_enter Try.func50, Try.ntmps50
        go_wp2_with fail
        refine (l6In_any _ _ _ _).mono ?_
        rw [HA.out]
        rintro e w' ⟨rfl, rfl⟩
        go_wp2_with fail
        refine (l6In_any _ _ _ _).mono ?_
        rw [HB.out]
        rintro e w' ⟨rfl, rfl⟩
        go_wp2_with fail
        refine (l6In_any _ _ _ _).mono ?_
        rw [HC.out]
        rintro e w' ⟨rfl, rfl⟩
        go_wp2_with fail
        go_ret
        exact BoolPost.of (by rw [HF.out, HR.out]) ((Below.refl _ _).alloc (Nat.le_refl _) _)
      · have HC := Lib.hid (decide_eq_false hc)
        have HR : Hid (decide ((0 ≤ a ∧ a ≤ 2) ∧ (0 ≤ b ∧ b ≤ 30) ∧ (0 ≤ c ∧ c ≤ 1) ∧ b + (d.size : Int) ≤ 30) = false) := Lib.hid (decide_eq_false fun h => hc h.2.2.1)
        clear ha hb hc
        go_enter Try.func50, Try.ntmps50
        go_wp2_with fail
        refine (l6In_any _ _ _ _).mono ?_
        rw [HA.out]
        rintro e w' ⟨rfl, rfl⟩
        go_wp2_with fail
        refine (l6In_any _ _ _ _).mono ?_
        rw [HB.out]
        rintro e w' ⟨rfl, rfl⟩
        go_wp2_with fail
        refine (l6In_any _ _ _ _).mono ?_
        rw [HC.out]
        rintro e w' ⟨rfl, rfl⟩
        go_wp2_with fail
        go_ret
        exact BoolPost.of (by rw [HF.out, HR.out]) ((Below.refl _ _).alloc (Nat.le_refl _) _)
        
    · have HB := Lib.hid (decide_eq_false hb)
      have HR : Hid (decide ((0 ≤ a ∧ a ≤ 2) ∧ (0 ≤ b ∧ b ≤ 30) ∧ (0 ≤ c ∧ c ≤ 1) ∧ b + (d.size : Int) ≤ 30) = false) := Lib.hid (decide_eq_false fun h => hb h.2.1)
      clear ha hb
      go_enter Try.func50, Try.ntmps50
      go_wp2_with fail
      refine (l6In_any _ _ _ _).mono ?_
      rw [HA.out]
      rintro e w' ⟨rfl, rfl⟩
      go_wp2_with fail
      refine (l6In_any _ _ _ _).mono ?_
      rw [HB.out]
      rintro e w' ⟨rfl, rfl⟩
      go_wp2_with fail
      go_ret
      exact BoolPost.of (by rw [HF.out, HR.out]) ((Below.refl _ _).alloc (Nat.le_refl _) _)
      
  · have HA := Lib.hid (decide_eq_false ha)
    have HR : Hid (decide ((0 ≤ a ∧ a ≤ 2) ∧ (0 ≤ b ∧ b ≤ 30) ∧ (0 ≤ c ∧ c ≤ 1) ∧ b + (d.size : Int) ≤ 30) = false) := Lib.hid (decide_eq_false fun h => ha h.1)
    clear ha
    go_enter Try.func50, Try.ntmps50
    go_wp2_with fail
    refine (l6In_any _ _ _ _).mono ?_
    rw [HA.out]
    rintro e w' ⟨rfl, rfl⟩
    go_wp2_with fail
    go_ret
    exact BoolPost.of (by rw [HF.out, HR.out]) ((Below.refl _ _).alloc (Nat.le_refl _) _)
    


set_option maxRecDepth 100000 in
set_option maxHeartbeats 1000000 in
theorem sfld_4 (f : Fr) (v : Value) (w : World) (hk : f.k = 4) : Calls Try.prog 50 #[frV f v] w (BoolPost w (ffld f)) := by
  cases f with | mk k a b c d rs =>
  simp only at hk
  subst hk
  have HF : Hid (ffld ⟨4, a, b, c, d, rs⟩ = decide ((0 ≤ a ∧ a ≤ 2) ∧ (0 ≤ b ∧ b ≤ 30))) := Lib.hid rfl
  unfold frV
  by_cases ha : 0 ≤ a ∧ a ≤ 2
  · have HA := Lib.hid (decide_eq_true ha)
    have HR : Hid (decide ((0 ≤ a ∧ a ≤ 2) ∧ (0 ≤ b ∧ b ≤ 30)) = decide (0 ≤ b ∧ b ≤ 30)) := Lib.hid (by rw [decide_eq_decide]; exact ⟨fun h => h.2, fun h => ⟨ha, h⟩⟩)
    clear ha
    go_enter Try.func50, Try.ntmps50
    go_wp2_with fail
    refine (l6In_any _ _ _ _).mono ?_
    rw [HA.out]
    rintro e w' ⟨rfl, rfl⟩
    go_wp2_with fail
    refine (l6In_any _ _ _ _).mono ?_
    rintro e w' ⟨rfl, rfl⟩
    go_wp2_with fail
    go_ret
    exact BoolPost.of (by rw [HF.out, HR.out, Bool.decide_and]) ((Below.refl _ _).alloc (Nat.le_refl _) _)
  · have HA := Lib.hid (decide_eq_false ha)
    have HR : Hid (decide ((0 ≤ a ∧ a ≤ 2) ∧ (0 ≤ b ∧ b ≤ 30)) = false) := Lib.hid (decide_eq_false fun h => ha h.1)
    clear ha
    go_enter Try.func50, Try.ntmps50
    go_wp2_with fail
    refine (l6In_any _ _ _ _).mono ?_
    rw [HA.out]
    rintro e w' ⟨rfl, rfl⟩
    go_wp2_with fail
    go_ret
    exact BoolPost.of (by rw [HF.out, HR.out]) ((Below.refl _ _).alloc (Nat.le_refl _) _)


set_option maxRecDepth 100000 in
set_option maxHeartbeats 1000000 in
theorem sfld_5 (f : Fr) (v : Value) (w : World) (hk : f.k = 5) : Calls Try.prog 50 #[frV f v] w (BoolPost w (ffld f)) := by
  cases f with | mk k a b c d rs =>
  simp only at hk
  subst hk
  have HF : Hid (ffld ⟨5, a, b, c, d, rs⟩ = decide (0 ≤ a ∧ a ≤ 9999)) := Lib.hid rfl
  unfold frV
  go_enter Try.func50, Try.ntmps50
  go_wp2_with fail
  refine (l6In_any _ _ _ _).mono ?_
  rintro e w' ⟨rfl, rfl⟩
  go_wp2_with fail
  go_ret
  exact BoolPost.of (by rw [HF.out, Bool.decide_and]) ((Below.refl _ _).alloc (Nat.le_refl _) _)


set_option maxRecDepth 100000 in
set_option maxHeartbeats 1000000 in
theorem sfld_6 (f : Fr) (v : Value) (w : World) (hk : f.k = 6) : Calls Try.prog 50 #[frV f v] w (BoolPost w (ffld f)) := by
  cases f with | mk k a b c d rs =>
  simp only at hk
  subst hk
  have HF : Hid (ffld ⟨6, a, b, c, d, rs⟩ = decide (0 ≤ a ∧ a ≤ 9999)) := Lib.hid rfl
  unfold frV
  go_enter Try.func50, Try.ntmps50
  go_wp2_with fail
  refine (l6In_any _ _ _ _).mono ?_
  rintro e w' ⟨rfl, rfl⟩
  go_wp2_with fail
  go_ret
  exact BoolPost.of (by rw [HF.out, Bool.decide_and]) ((Below.refl _ _).alloc (Nat.le_refl _) _)


set_option maxRecDepth 100000 in
set_option maxHeartbeats 1000000 in
theorem sfld_7 (f : Fr) (v : Value) (w : World) (hk : f.k = 7) : Calls Try.prog 50 #[frV f v] w (BoolPost w (ffld f)) := by
  cases f with | mk k a b c d rs =>
  simp only at hk
  subst hk
  have HF : Hid (ffld ⟨7, a, b, c, d, rs⟩ = decide ((0 ≤ a ∧ a ≤ 15) ∧ (0 ≤ b ∧ b ≤ 9999))) := Lib.hid rfl
  unfold frV
  by_cases ha : 0 ≤ a ∧ a ≤ 15
  · have HA := Lib.hid (decide_eq_true ha)
    have HR : Hid (decide ((0 ≤ a ∧ a ≤ 15) ∧ (0 ≤ b ∧ b ≤ 9999)) = decide (0 ≤ b ∧ b ≤ 9999)) := Lib.hid (by rw [decide_eq_decide]; exact ⟨fun h => h.2, fun h => ⟨ha, h⟩⟩)
    clear ha
    go_enter Try.func50, Try.ntmps50
    go_wp2_with fail
    refine (l6In_any _ _ _ _).mono ?_
    rw [HA.out]
    rintro e w' ⟨rfl, rfl⟩
    go_wp2_with fail
    refine (l6In_any _ _ _ _).mono ?_
    rintro e w' ⟨rfl, rfl⟩
    go_wp2_with fail
    go_ret
    exact BoolPost.of (by rw [HF.out, HR.out, Bool.decide_and]) ((Below.refl _ _).alloc (Nat.le_refl _) _)
  · have HA := Lib.hid (decide_eq_false ha)
    have HR : Hid (decide ((0 ≤ a ∧ a ≤ 15) ∧ (0 ≤ b ∧ b ≤ 9999)) = false) := Lib.hid (decide_eq_false fun h => ha h.1)
    clear ha
    go_enter Try.func50, Try.ntmps50
    go_wp2_with fail
    refine (l6In_any _ _ _ _).mono ?_
    rw [HA.out]
    rintro e w' ⟨rfl, rfl⟩
    go_wp2_with fail
    go_ret
    exact BoolPost.of (by rw [HF.out, HR.out]) ((Below.refl _ _).alloc (Nat.le_refl _) _)


set_option maxRecDepth 100000 in
set_option maxHeartbeats 1000000 in
theorem sfld_8 (f : Fr) (v : Value) (w : World) (hk : f.k = 8) : Calls Try.prog 50 #[frV f v] w (BoolPost w (ffld f)) := by
  cases f with | mk k a b c d rs =>
  simp only at hk
  subst hk
  have HF : Hid (ffld ⟨8, a, b, c, d, rs⟩ = decide (0 ≤ a ∧ a ≤ 15)) := Lib.hid rfl
  unfold frV
  go_enter Try.func50, Try.ntmps50
  go_wp2_with fail
  refine (l6In_any _ _ _ _).mono ?_
  rintro e w' ⟨rfl, rfl⟩
  go_wp2_with fail
  go_ret
  exact BoolPost.of (by rw [HF.out, Bool.decide_and]) ((Below.refl _ _).alloc (Nat.le_refl _) _)


set_option maxRecDepth 100000 in
set_option maxHeartbeats 1000000 in
theorem sfld_10 (f : Fr) (v : Value) (w : World) (hk : f.k = 10) : Calls Try.prog 50 #[frV f v] w (BoolPost w (ffld f)) := by
  cases f with | mk k a b c d rs =>
  simp only at hk
  subst hk
  have HF : Hid (ffld ⟨10, a, b, c, d, rs⟩ = decide (0 ≤ a ∧ a ≤ 99)) := Lib.hid rfl
  unfold frV
  go_enter Try.func50, Try.ntmps50
  go_wp2_with fail
  refine (l6In_any _ _ _ _).mono ?_
  rintro e w' ⟨rfl, rfl⟩
  go_wp2_with fail
  go_ret
  exact BoolPost.of (by rw [HF.out, Bool.decide_and]) ((Below.refl _ _).alloc (Nat.le_refl _) _)


set_option maxRecDepth 100000 in
set_option maxHeartbeats 1000000 in
theorem sfld_x (f : Fr) (v : Value) (w : World) (h2 : f.k ≠ 2) (h3 : f.k ≠ 3) (h4 : f.k ≠ 4) (h5 : f.k ≠ 5) (h6 : f.k ≠ 6) (h7 : f.k ≠ 7) (h8 : f.k ≠ 8) (h10 : f.k ≠ 10) : Calls Try.prog 50 #[frV f v] w (BoolPost w (ffld f)) := by
  have HF : Hid (ffld f = decide (0 ≤ f.k ∧ f.k ≤ 10)) := Lib.hid (by unfold ffld; rw [if_neg h2, if_neg h3, if_neg h4, if_neg (by omega), if_neg h7, if_neg h8, if_neg h10])
  cases f with | mk k a b c d rs =>
  simp only at h2 h3 h4 h5 h6 h7 h8 h10
  have e2 := bne_of h2
  have e3 := bne_of h3
  have e4 := bne_of h4
  have e5 := bne_of h5
  have e6 := bne_of h6
  have e7 := bne_of h7
  have e8 := bne_of h8
  have e10 := bne_of h10
  clear h2 h3 h4 h5 h6 h7 h8 h10
  unfold frV
  go_enter Try.func50, Try.ntmps50
  go_wp2_with fail
  refine (l6In_any _ _ _ _).mono ?_
  rintro e w' ⟨rfl, rfl⟩
  go_wp2_with fail
  go_ret
  exact BoolPost.of (by rw [HF.out, Bool.decide_and]) ((Below.refl _ _).alloc (Nat.le_refl _) _)

theorem sfld_any (f : Fr) (v : Value) (w : World) (h : Rngs w v f.rs) (hl : f.rs.length ≤ 1048576) (hd : f.d.size ≤ 2097152) : Calls Try.prog 50 #[frV f v] w (BoolPost w (ffld f)) := by
  by_cases h2 : f.k = 2
  · exact sfld_2 f v w h2 h hl
  by_cases h3 : f.k = 3
  · exact sfld_3 f v w h3 hd
  by_cases h4 : f.k = 4
  · exact sfld_4 f v w h4
  by_cases h5 : f.k = 5
  · exact sfld_5 f v w h5
  by_cases h6 : f.k = 6
  · exact sfld_6 f v w h6
  by_cases h7 : f.k = 7
  · exact sfld_7 f v w h7
  by_cases h8 : f.k = 8
  · exact sfld_8 f v w h8
  by_cases h10 : f.k = 10
  · exact sfld_10 f v w h10
  exact sfld_x f v w h2 h3 h4 h5 h6 h7 h8 h10

end Go.Proofs.Ytifohfclgonhfaa
