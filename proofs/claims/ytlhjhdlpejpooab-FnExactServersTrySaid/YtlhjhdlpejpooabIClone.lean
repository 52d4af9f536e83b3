/- slices.Clone at tickets, copyRegister. -/
import Derived.Test.YtlhjhdlpejpooabLayT
import Derived.Test.YtlhjhdlpejpooabTcs
import Derived.Test.YtlhjhdlpejpooabSTickv
import Derived.Deep.RegionHeld3
namespace Go.Proofs.Ytlhjhdlpejpooab
open Go.Shelf Go.RowKit Go.Lib
set_option linter.unusedVariables false
set_option linter.unusedSimpArgs false

def GotTc (w : World) (l : List Tic) (e : Ending) (w' : World) : Prop := ∃ v', e = .returned v' ∧ OwnTc w' w.heap.size v' l ∧ Below w.heap.size w w'
set_option maxRecDepth 100000 in
set_option maxHeartbeats 1000000 in
theorem clone_any (v : Value) (l : List Tic) (w : World) (h : Tcs w v l) (hl : l.length ≤ 1048576) : Calls Try.prog 77 #[v] w (GotTc w l) := by
  obtain ⟨i0, hi, hz0, hz1, hz2⟩ := info_parts try_infoTicket
  obtain ⟨ht, hn, a, c, rfl, hlc, ha⟩ := h
  cases a with
  | none =>
    have e0 := hn.resolve_left (fun k => k rfl)
    simp only [Value.slice.injEq, true_and] at e0
    obtain ⟨e1, rfl⟩ := e0
    have hl0 := List.length_eq_zero_iff.1 e1
    subst hl0
    have hcon := AnyE.slices_Clone_nil cloneT 0 0 w
    change Calls Try.prog 77 #[.slice none 0 0] w _ at hcon
    refine hcon.mono ?_
    rintro e w' ⟨rfl, rfl⟩
    exact ⟨_, rfl, OwnTc.nil _ _, Below.refl _ _⟩
  | some ad =>
    obtain ⟨g, o, rfl⟩ := ha ad rfl
    have HC := Tics.cells ht
    have hcon := AnyE.slices_Clone cloneT i0 (.agg #[.int .i64 0, .int .i64 0]) 2 16 hi hz0 hz1 hz2 rfl (by decide) Try.sizeOf38 g o l.length c (tcells l) w (tcells_len l) (by unfold maxLen; omega) (by omega) HC (tcells_one l)
    change Calls Try.prog 77 #[.slice (some ⟨g, o, none⟩) l.length c] w _ at hcon
    refine hcon.mono ?_
    rintro e w' ⟨v', rfl, ho, hne, hb⟩
    exact ⟨v', rfl, ho, hb⟩

set_option maxRecDepth 100000 in
set_option maxHeartbeats 4000000 in
theorem copyreg_any (n : Int) (v : Value) (l : List Tic) (w : World) (h : Tcs w v l) (hl : l.length ≤ 1048576) : Calls Try.prog 53 #[.agg #[.int .i64 n, v]] w (GotRg w (n, l)) := by
  have HT := Lib.hid h
  obtain ⟨_, _, a, c, rfl, _, _⟩ := h
  obtain ⟨W1, hW1⟩ : ∃ W1, W1 = (w.alloc (.cells #[.int .i64 n, .slice a l.length c] 28)).alloc (.cells #[.int .i64 0, .slice none 0 0] 28) := ⟨_, rfl⟩
  have U1 : Below w.heap.size w W1 := by rw [hW1]; exact ((Below.refl _ _).alloc (Nat.le_refl _) _).alloc (by simp) _
  have e1 : (w.alloc (.cells #[.int .i64 n, .slice a l.length c] 28)).heap.size = w.heap.size + 1 := by simp
  have P1 : RgV W1 w.heap.size n (.slice a l.length c) := by rw [hW1]; exact (RgV.new w n _ _).below ((Below.refl _ _).alloc (Nat.le_refl _) _)
  have Z1 : RgV W1 (w.heap.size + 1) 0 (.slice none 0 0) := by rw [hW1, ← e1]; exact RgV.new _ 0 _ _
  have F1 : Soft W1 (w.heap.size + 1) := by rw [hW1, ← e1]; exact Soft.new _ _ _
  have hZb : Hid (w.heap.size < w.heap.size + 1) := Lib.hid (by omega)
  clear e1
  go_enter Try.func53, Try.ntmps53
  go_wp2_with fail
  rw [← hW1]
  clear hW1
  generalize w.heap.size + 1 = rb at Z1 F1 hZb ⊢
  have UD := Lib.hid U1.drew
  have PD := Lib.hid (P1.below (Below.refl _ _).drew)
  have ZD := Lib.hid (Z1.below (Below.refl _ _).drew)
  have FD := Lib.hid (F1.below (Below.refl _ _).drew Z1.lt)
  have CC := Lib.hid (clone_any _ l W1.drew (HT.out.below UD.out) hl)
  obtain ⟨c0, c1⟩ := PD.out
  have k1 := And.intro PD.out.c0 PD.out.c1
  clear U1 P1 Z1 F1
  go_region_held3 (fun w' => w'.cell? ⟨w.heap.size, 0, none⟩ = some (.int .i64 n) ∧ w'.cell? ⟨w.heap.size, 1, none⟩ = some (.slice a l.length c)) (with_reducible first | assumption | exact k1)
    ((go_at_call 77; (with_reducible refine CC.out.mono ?_); rintro e w8 ⟨v', rfl, hO, hb8⟩; obtain ⟨av, cv, rfl⟩ := ownsRow_shape hO; have P8 := PD.out.below hb8; have k8 := And.intro P8.c0 P8.c1; have Z8 := ZD.out.below hb8; have F8 := FD.out.below hb8 ZD.out.lt; have f0 := F8 0; have f1 := F8 1; have z0 := Z8.c0; have z1 := Z8.c1; have P9 := (P8.far (c := rb) (i := 0) (v := .int .i64 n) (fun e => by have := hZb.out; omega)).far (c := rb) (i := 1) (v := .slice av l.length cv) (fun e => by have := hZb.out; omega); have k9 := And.intro P9.c0 P9.c1))
  all_goals
    have KE := Lib.hid (reg_end (m := n) (UD.out.trans (hb8.mono UD.out.size)) Z8 (OwnTc.lower hO UD.out.size) (fun e => by have := (World.ownsRow.lt hO rb e).1; have := ZD.out.lt; omega) (by have := hZb.out; omega))
    clear P9 k9 z0 z1 f0 f1 F8 k8 P8 hb8 Z8 hO
    go_wp2_with fail
    generalize (w8.setCell ⟨rb, 0, none⟩ (.int .i64 n)).setCell ⟨rb, 1, none⟩ (.slice av l.length cv) = WF at KE ⊢
    obtain ⟨k0, k1⟩ := KE.out.1
    refine bodyPost_ret (v := .agg #[.int .i64 n, .slice av l.length cv]) ?_ rfl ?_
    · rw [results_cell_1 rfl]; go_simp
    · exact ⟨_, rfl, KE.out.2.2, KE.out.2.1⟩

end Go.Proofs.Ytlhjhdlpejpooab
