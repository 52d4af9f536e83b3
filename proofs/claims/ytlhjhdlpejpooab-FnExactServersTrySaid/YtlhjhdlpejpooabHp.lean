/- The program's heap of tickets: its methods. -/
import Derived.Test.YtlhjhdlpejpooabTcMem
import Derived.Test.YtlhjhdlpejpooabUpq
import Derived.Deep.Draws
import Derived.Deep.QuietTactic
import Derived.BigQuiet
import Derived.Deep.RegionLaw
import Derived.BigRegion
import Derived.Lib.BufferWrite
namespace Go.Proofs.Ytlhjhdlpejpooab
open Go.RowKit
set_option linter.unusedVariables false
set_option linter.unusedSimpArgs false

theorem grownBy_drew (w : World) (row : Option Nat) : w.grownBy w.drew row := ⟨rfl, rfl, rfl, Nat.le_refl _, fun _ _ _ => rfl⟩
set_option maxRecDepth 100000 in
theorem loadE {b : Nat} {s : Value} {w : World} (h : w.cell? ⟨b, 0, none⟩ = some s) : (loadVar 71 ⟨b, 0, none⟩).run Try.prog w = .ok s w := by
  go_simp
set_option maxRecDepth 100000 in
theorem ptrE : Try.prog.underlying 68 = some (.pointer 71) := by rfl
set_option maxRecDepth 100000 in
theorem methodLen (n b : Nat) (s : Value) (w : World) (h : w.cell? ⟨b, 0, none⟩ = some s) : (Go.method (n + 1) 68 (.pointer (some ⟨b, 0, none⟩)) "Len").run Try.prog w = .ok (70, s) w := by
  obtain ⟨ti, m, h1, h2, h3, h4⟩ : ∃ ti m, Try.prog.info? 68 = some ti ∧ ti.methods.find? (·.name == "Len") = some m ∧ m.path = #[] ∧ m.func = some (70, false) := ⟨_, _, rfl, rfl, rfl, rfl⟩
  have hw : ∀ t, (Builtin.ssaWrapNilChk_ #[68] 68 #[.pointer (some ⟨b, 0, none⟩), strVal "", strVal t]).run Try.prog w = .ok (.pointer (some ⟨b, 0, none⟩)) w := fun t => rfl
  have hl := loadE h
  unfold Go.method
  simp [typeInfo, h1, h2, h3, h4, follow, receiverAt, run_underlying ptrE, Place.get, Sem.run_bind, hw, hl, asAddr]
set_option maxRecDepth 100000 in
theorem methodLess (n b : Nat) (s : Value) (w : World) (h : w.cell? ⟨b, 0, none⟩ = some s) : (Go.method (n + 1) 68 (.pointer (some ⟨b, 0, none⟩)) "Less").run Try.prog w = .ok (121, s) w := by
  obtain ⟨ti, m, h1, h2, h3, h4⟩ : ∃ ti m, Try.prog.info? 68 = some ti ∧ ti.methods.find? (·.name == "Less") = some m ∧ m.path = #[] ∧ m.func = some (121, false) := ⟨_, _, rfl, rfl, rfl, rfl⟩
  have hw : ∀ t, (Builtin.ssaWrapNilChk_ #[68] 68 #[.pointer (some ⟨b, 0, none⟩), strVal "", strVal t]).run Try.prog w = .ok (.pointer (some ⟨b, 0, none⟩)) w := fun t => rfl
  have hl := loadE h
  unfold Go.method
  simp [typeInfo, h1, h2, h3, h4, follow, receiverAt, run_underlying ptrE, Place.get, Sem.run_bind, hw, hl, asAddr]
set_option maxRecDepth 100000 in
theorem methodSwap (n b : Nat) (s : Value) (w : World) (h : w.cell? ⟨b, 0, none⟩ = some s) : (Go.method (n + 1) 68 (.pointer (some ⟨b, 0, none⟩)) "Swap").run Try.prog w = .ok (124, s) w := by
  obtain ⟨ti, m, h1, h2, h3, h4⟩ : ∃ ti m, Try.prog.info? 68 = some ti ∧ ti.methods.find? (·.name == "Swap") = some m ∧ m.path = #[] ∧ m.func = some (124, false) := ⟨_, _, rfl, rfl, rfl, rfl⟩
  have hw : ∀ t, (Builtin.ssaWrapNilChk_ #[68] 68 #[.pointer (some ⟨b, 0, none⟩), strVal "", strVal t]).run Try.prog w = .ok (.pointer (some ⟨b, 0, none⟩)) w := fun t => rfl
  have hl := loadE h
  unfold Go.method
  simp [typeInfo, h1, h2, h3, h4, follow, receiverAt, run_underlying ptrE, Place.get, Sem.run_bind, hw, hl, asAddr]
set_option maxRecDepth 100000 in
theorem methodPush (n : Nat) (v : Value) (w : World) : (Go.method (n + 1) 68 v "Push").run Try.prog w = .ok (123, v) w := by rfl
set_option maxRecDepth 100000 in
theorem methodPop (n : Nat) (v : Value) (w : World) : (Go.method (n + 1) 68 v "Pop").run Try.prog w = .ok (122, v) w := by rfl

set_option maxRecDepth 100000 in
set_option maxHeartbeats 1000000 in
theorem len_any (a : Option Addr) (n c : Nat) (w : World) : Calls Try.prog 70 #[.slice a n c] w fun e w' => e = .returned (.int .i64 (n : Int)) ∧ w = w' := by
  go_enter Try.func70, Try.ntmps70
  go_wp2_with fail
  go_ret
  exact ⟨rfl, rfl⟩

theorem kl_cell {w : World} {B g c n : Nat} {l : List Tic} (h : OwnTc w B (.slice (some ⟨g, 0, none⟩) n c) l) (hn : n = l.length) (i : Nat) (hi : i < l.length) :
    w.cell? ⟨g, i * 2, none⟩ = some (.int .i64 (l.getD i (0, 0)).1) ∧ w.cell? ⟨g, i * 2 + 1, none⟩ = some (.int .i64 (kl l i)) := by
  subst hn
  obtain ⟨r1, r2⟩ := tcells_at l i hi
  have c1 := World.ownsRow.cellAt h (i * 2) (by omega)
  have c2 := World.ownsRow.cellAt h (i * 2 + 1) (by omega)
  rw [r1] at c1
  rw [r2] at c2
  exact ⟨c1, c2⟩
set_option maxRecDepth 100000 in
set_option maxHeartbeats 1000000 in
theorem less_any (g c : Nat) (l : List Tic) (i j B : Nat) (w : World) (h : OwnTc w B (.slice (some ⟨g, 0, none⟩) l.length c) l) (hi : i < l.length) (hj : j < l.length) :
    Calls Try.prog 121 #[.slice (some ⟨g, 0, none⟩) l.length c, .int .i64 (i : Int), .int .i64 (j : Int)] w fun e w' => e = .returned (.bool (decide (kl l i < kl l j))) ∧ ∃ m, w' = w.drewN m := by
  obtain ⟨_, e1⟩ := kl_cell h rfl i hi
  obtain ⟨_, e2⟩ := kl_cell h rfl j hj
  have hi' : (i : Int) < (l.length : Int) := by omega
  have hj' : (j : Int) < (l.length : Int) := by omega
  generalize kl l i = x at e1 ⊢
  generalize kl l j = y at e2 ⊢
  clear h
  go_enter Try.func121, Try.ntmps121
  go_wp2_with fail
  go_quiet (fail)
  go_wp2_with fail
  go_ret
  exact ⟨rfl, _, rfl⟩

set_option maxRecDepth 100000 in
set_option maxHeartbeats 2000000 in
theorem swap_any (g c : Nat) (l : List Tic) (i j B : Nat) (w : World) (h : OwnTc w B (.slice (some ⟨g, 0, none⟩) l.length c) l) (hi : i < l.length) (hj : j < l.length) :
    Calls Try.prog 124 #[.slice (some ⟨g, 0, none⟩) l.length c, .int .i64 (i : Int), .int .i64 (j : Int)] w fun e w' => e = .returned (.tuple #[]) ∧ OwnTc w' B (.slice (some ⟨g, 0, none⟩) l.length c) (swp l i j) ∧ w.grownBy w' (some g) := by
  obtain ⟨e0, e1⟩ := kl_cell h rfl i hi
  obtain ⟨e2, e3⟩ := kl_cell h rfl j hj
  have hi' : (i : Int) < (l.length : Int) := by omega
  have hj' : (j : Int) < (l.length : Int) := by omega
  have HF := World.ownsRow.frozenAt h
  have HS := Lib.hid (OwnTc.swap h rfl i j)
  clear h
  unfold kl at e1 e3
  obtain ⟨xi, hxi⟩ : ∃ x, x = (l.getD i (0, 0)).1 := ⟨_, rfl⟩
  obtain ⟨yi, hyi⟩ : ∃ x, x = (l.getD i (0, 0)).2 := ⟨_, rfl⟩
  obtain ⟨xj, hxj⟩ : ∃ x, x = (l.getD j (0, 0)).1 := ⟨_, rfl⟩
  obtain ⟨yj, hyj⟩ : ∃ x, x = (l.getD j (0, 0)).2 := ⟨_, rfl⟩
  rw [← hxi] at e0 HS
  rw [← hyi] at e1 HS
  rw [← hxj] at e2 HS
  rw [← hyj] at e3 HS
  clear hxi hyi hxj hyj
  have keep : ∀ (W : World) (p q : Nat) (v : Value), W.cell? ⟨g, q, none⟩ = some v → (W.setCell ⟨g, p, none⟩ v).cell? ⟨g, q, none⟩ = some v := by
    intro W p q v h
    by_cases e : p = q
    · subst e; exact World.cell?_setCell_same _ _ _ h
    · exact (World.cell?_setCell_other _ _ _ _ (fun k => e (by injection k))).trans h
  have k0 := keep w (i * 2) (j * 2) _ e2
  have k1 := keep w (i * 2 + 1) (j * 2 + 1) _ e3
  have k2 := keep (w.setCell ⟨g, i * 2, none⟩ (.int .i64 xj)) (i * 2 + 1) (j * 2 + 1) _ ((World.cell?_setCell_other _ _ _ _ (fun e => absurd (by injection e : i * 2 = j * 2 + 1) (by omega))).trans e3)
  clear keep
  go_enter Try.func124, Try.ntmps124
  go_wp2_with fail
  go_region
  have GW : w.grownBy ((((w.setCell ⟨g, i * 2, none⟩ (.int .i64 xj)).setCell ⟨g, i * 2 + 1, none⟩ (.int .i64 yj)).setCell ⟨g, j * 2, none⟩ (.int .i64 xi)).setCell ⟨g, j * 2 + 1, none⟩ (.int .i64 yi)) (some g) :=
    (((Lib.grownBy_setCell w g (i * 2) _).trans (Lib.grownBy_setCell _ g (i * 2 + 1) _)).trans (Lib.grownBy_setCell _ g (j * 2) _)).trans (Lib.grownBy_setCell _ g (j * 2 + 1) _)
  have GW := Lib.hid GW
  clear k0 k1 k2 e0 e1 e2 e3
  generalize (((w.setCell ⟨g, i * 2, none⟩ (.int .i64 xj)).setCell ⟨g, i * 2 + 1, none⟩ (.int .i64 yj)).setCell ⟨g, j * 2, none⟩ (.int .i64 xi)).setCell ⟨g, j * 2 + 1, none⟩ (.int .i64 yi) = WF at HS GW ⊢
  go_end0
  exact ⟨rfl, HS.out.below (Below.refl _ _).drew, GW.out.trans (grownBy_drew _ _)⟩

end Go.Proofs.Ytlhjhdlpejpooab
