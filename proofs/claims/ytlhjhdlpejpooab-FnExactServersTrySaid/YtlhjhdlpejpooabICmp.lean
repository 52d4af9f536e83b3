/- The program's order of tickets (cmp.Or of two comparisons). -/
import Derived.Test.YtlhjhdlpejpooabLayT
import Derived.Test.YtlhjhdlpejpooabTic
import Derived.Deep.Draws
import Derived.Deep.QuietTactic
import Derived.BigQuiet
import Derived.Deep.RegionLaw
import Derived.Deep.DeepCutAuto
import Derived.StillTailTactics
import Derived.Stop.LaidErr
namespace Go.Proofs.Ytlhjhdlpejpooab
open Go.Shelf Go.RowKit Go.Lib Go.Sort
set_option linter.unusedVariables false
set_option linter.unusedSimpArgs false

def orI (p q : Int) : Int := if p = 0 then q else p
set_option maxRecDepth 100000 in
set_option maxHeartbeats 1000000 in
theorem cor_any (g c : Nat) (p q : Int) (w : World) (h0 : w.cell? ⟨g, 0, none⟩ = some (.int .i64 p)) (h1 : w.cell? ⟨g, 1, none⟩ = some (.int .i64 q)) :
    Calls Try.prog 74 #[.slice (some ⟨g, 0, none⟩) 2 c] w fun e w' => e = .returned (.int .i64 (orI p q)) ∧ w = w' := by
  go_enter Try.func74, Try.ntmps74
  go_wp2_with fail
  go_loopw [8] (fun iv wr => w = wr ∧ ∃ j : Nat, j ≤ 2 ∧ iv = .int .i64 (j : Int) ∧ (1 ≤ j → p = 0) ∧ (2 ≤ j → q = 0)) (fun iv _ => 2 - (intOf iv).toNat)
  case atStart => exact ⟨rfl, 0, by omega, rfl, by omega, by omega⟩
  case round =>
    obtain ⟨rfl, j, hj, rfl, hp, hq⟩ := hrel
    match j, hj with
    | 0, _ =>
      by_cases hp0 : p = 0
      · subst hp0
        have hh := Lib.hid hq
        clear hp hq
        go_wp2_with fail
        go_roundw
        case rel => refine ⟨?_, 1, ?_, ?_, ?_, ?_⟩ <;> first | rfl | trivial | omega | (simp; done)
        case measure => simp [intOf]
      · have hpb : (p == 0) = false := by rw [beq_eq_false_iff_ne]; exact hp0
        have hpn : (p != 0) = true := by rw [bne_iff_ne]; exact hp0
        have hv : Hid (orI p q = p) := Lib.hid (if_neg hp0)
        clear hp hq
        go_wp2_with fail
        go_ret
        exact ⟨by rw [hv.out]; rfl, rfl⟩
    | 1, _ =>
      have hp0 := hp (by omega)
      subst hp0
      by_cases hq0 : q = 0
      · subst hq0
        clear hp hq
        go_wp2_with fail
        go_roundw
        case rel => refine ⟨?_, 2, ?_, ?_, ?_, ?_⟩ <;> first | rfl | trivial | omega | (simp; done)
        case measure => simp [intOf]
      · have hqb : (q == 0) = false := by rw [beq_eq_false_iff_ne]; exact hq0
        have hqn : (q != 0) = true := by rw [bne_iff_ne]; exact hq0
        have hv : Hid (orI 0 q = q) := Lib.hid (if_pos rfl)
        clear hp hq
        go_wp2_with fail
        go_ret
        exact ⟨by rw [hv.out]; rfl, rfl⟩
    | 2, _ =>
      have hp0 := hp (by omega)
      have hq0 := hq (by omega)
      subst hp0; subst hq0
      have hv : Hid (orI 0 0 = 0) := Lib.hid (if_pos rfl)
      clear hp hq
      go_wp2_with fail
      go_ret
      exact ⟨by rw [hv.out]; rfl, rfl⟩

/-- The order of tickets as a number. -/
def cmpT (x y : Int × Int) : Int := orI (Lib.compareInt x.2 y.2) (Lib.compareInt x.1 y.1)
set_option maxRecDepth 100000 in
set_option maxHeartbeats 2000000 in
theorem cmpt_any (x y : Int × Int) (W : World) : Calls Try.prog 46 #[.agg #[.int .i64 x.1, .int .i64 x.2], .agg #[.int .i64 y.1, .int .i64 y.2]] W fun e w' => e = .returned (.int .i64 (cmpT x y)) ∧ ∃ q os', w' = grow (W.drewN q) os' := by
  have h1 := Lib.hid (fun W' => AnyG.cmp_Compare_int cmpInt x.2 y.2 W')
  change Hid (∀ W', Calls Try.prog 75 _ _ _) at h1
  have h2 := Lib.hid (fun W' => AnyG.cmp_Compare_int cmpInt x.1 y.1 W')
  change Hid (∀ W', Calls Try.prog 75 _ _ _) at h2
  unfold cmpT
  obtain ⟨x1, x2⟩ := x
  obtain ⟨y1, y2⟩ := y
  dsimp only at h1 h2 ⊢
  generalize Lib.compareInt x2 y2 = r at h1 ⊢
  generalize Lib.compareInt x1 y1 = s at h2 ⊢
  obtain ⟨W1, hW1⟩ : ∃ W1, W1 = (W.alloc (.cells #[.int .i64 x1, .int .i64 x2] 38)).alloc (.cells #[.int .i64 y1, .int .i64 y2] 38) := ⟨_, rfl⟩
  have e1 : (W.alloc (.cells #[.int .i64 x1, .int .i64 x2] 38)).heap.size = W.heap.size + 1 := by simp
  have c0 : W1.cell? ⟨W.heap.size, 0, none⟩ = some (.int .i64 x1) := by
    rw [hW1]; exact cell?_alloc_old _ (by rw [World.cell?_alloc_mark]; rfl)
  have c1 : W1.cell? ⟨W.heap.size, 1, none⟩ = some (.int .i64 x2) := by
    rw [hW1]; exact cell?_alloc_old _ (by rw [World.cell?_alloc_mark]; rfl)
  have c2 : W1.cell? ⟨W.heap.size + 1, 0, none⟩ = some (.int .i64 y1) := by
    rw [hW1, ← e1, World.cell?_alloc_mark]; rfl
  have c3 : W1.cell? ⟨W.heap.size + 1, 1, none⟩ = some (.int .i64 y2) := by
    rw [hW1, ← e1, World.cell?_alloc_mark]; rfl
  have H1 : Hid (∀ W', Calls Try.prog 75 #[.int .i64 x2, .int .i64 y2] W' fun e w'' => e = .returned (.int .i64 r) ∧ w'' = W') := Lib.hid fun W' => (h1.out W').mono fun e w' h => by first | exact h | exact ⟨h.1, h.2.symm⟩
  have H2 : Hid (∀ W', Calls Try.prog 75 #[.int .i64 x1, .int .i64 y1] W' fun e w'' => e = .returned (.int .i64 s) ∧ w'' = W') := Lib.hid fun W' => (h2.out W').mono fun e w' h => by first | exact h | exact ⟨h.1, h.2.symm⟩
  clear h1 h2
  go_enter Try.func46, Try.ntmps46
  go_wp2_with fail
  rw [← hW1]
  refine wp_region_still_tail 10 (by kernel_rfl) (by kernel_rfl) ?_
  obtain ⟨W2, hW2⟩ : ∃ W2, ({ W1 with drawn := W1.drawn + 1 } : World) = W2 := ⟨_, rfl⟩
  have d0 : W2.cell? ⟨W.heap.size, 0, none⟩ = some (.int .i64 x1) := by rw [← hW2]; exact c0
  have d1 : W2.cell? ⟨W.heap.size, 1, none⟩ = some (.int .i64 x2) := by rw [← hW2]; exact c1
  have d2 : W2.cell? ⟨W.heap.size + 1, 0, none⟩ = some (.int .i64 y1) := by rw [← hW2]; exact c2
  have d3 : W2.cell? ⟨W.heap.size + 1, 1, none⟩ = some (.int .i64 y2) := by rw [← hW2]; exact c3
  have k0 : (W2.alloc (.cells #[.int .i64 r, .int .i64 s] 3)).cell? ⟨W2.heap.size, 0, none⟩ = some (.int .i64 r) := by
    rw [World.cell?_alloc_mark]; rfl
  have k1 : (W2.alloc (.cells #[.int .i64 r, .int .i64 s] 3)).cell? ⟨W2.heap.size, 1, none⟩ = some (.int .i64 s) := by
    rw [World.cell?_alloc_mark]; rfl
  have CO := Lib.hid (cor_any W2.heap.size 2 r s _ k0 k1)
  have GE : Hid (∃ q os', W2.alloc (.cells #[.int .i64 r, .int .i64 s] 3) = grow (W.drewN q) os') := Lib.hid ⟨1, _, by rw [← hW2, hW1, alloc_eq_grow, alloc_eq_grow, alloc_eq_grow]; exact congrArg (fun z => grow z _) (show _ = grow (W.drewN 1) _ by rw [grow_grow]; rfl) |>.trans (grow_grow _ _ _)⟩
  rw [hW2]
  clear hW2 hW1 c0 c1 c2 c3 k0 k1 e1
  generalize W.heap.size + 1 = b2 at d2 d3 ⊢
  generalize W.heap.size = b1 at d0 d1 ⊢
  simp only [List.take_succ_cons, List.take_zero, List.drop_succ_cons, List.drop_zero]
  iterate 4 still_step
  still_call (H1.out _)
  iterate 4 still_step
  still_call (H2.out _)
  refine wpStill_nil ?_
  go_wp2_with fail
  refine CO.out.mono ?_
  rintro e w' ⟨rfl, rfl⟩
  go_wp2_with fail
  go_ret
  exact ⟨rfl, GE.out⟩

end Go.Proofs.Ytlhjhdlpejpooab
