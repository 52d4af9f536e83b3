/- The program's TokenAccept. -/
import Derived.Test.YtbmlckhjjfipbaaDoorChkI
namespace Go.Proofs.YtbmlckhjjfipbaaDoor
open Go.RowKit
set_option linter.unusedVariables false
set_option linter.unusedSimpArgs false

/-- What the variable of rejections holds: a pointer to an error of errors.New's make. -/
def Glob (w : World) (b : Addr) : Prop := w.cell? ⟨0, 0, none⟩ = some (.iface 68 (.pointer (some b)))
theorem Glob.below {w w' : World} {b : Addr} (h : Glob w b) (hb : Below w.heap.size w w') : Glob w' b := (hb.cell (World.block_lt_of_cell? w _ h)).trans h
theorem Glob.mono {w w' : World} {b : Addr} {B : Nat} (h : Glob w b) (h0 : 0 < B) (hb : Below B w w') : Glob w' b := (hb.cell h0).trans h
structure Acc (W : World) (k : Nat) (x y z : Int) (b : Addr) : Prop where
  c0 : W.cell? ⟨k, 0, none⟩ = some (.int .i64 x)
  c1 : W.cell? ⟨k, 1, none⟩ = some (.int .i64 y)
  c2 : W.cell? ⟨k, 2, none⟩ = some (.int .i64 z)
  g : W.cell? ⟨0, 0, none⟩ = some (.iface 68 (.pointer (some b)))
theorem Acc.below {W W' : World} {k : Nat} {x y z : Int} {b : Addr} (h : Acc W k x y z b) (hb : Below W.heap.size W W') : Acc W' k x y z b :=
  ⟨(hb.cell (World.block_lt_of_cell? W _ h.c0)).trans h.c0, (hb.cell (World.block_lt_of_cell? W _ h.c1)).trans h.c1, (hb.cell (World.block_lt_of_cell? W _ h.c2)).trans h.c2, (hb.cell (World.block_lt_of_cell? W _ h.g)).trans h.g⟩
theorem Acc.new (w : World) (x y z : Int) (b : Addr) (T : TypeId) (hg : Glob w b) : Acc (w.alloc (.cells #[.int .i64 x, .int .i64 y, .int .i64 z] T)) w.heap.size x y z b := by
  refine ⟨?_, ?_, ?_, hg.below ((Below.refl _ _).alloc (Nat.le_refl _) _)⟩ <;> (rw [World.cell?_alloc_mark]; rfl)
def AccS (W : World) (k : Nat) (x y z : Int) (b : Addr) : Prop := (W.cell? ⟨k, 0, none⟩ = some (.int .i64 x) ∧ W.cell? ⟨k, 1, none⟩ = some (.int .i64 y) ∧ W.cell? ⟨k, 2, none⟩ = some (.int .i64 z)) ∧ W.cell? ⟨0, 0, none⟩ = some (.iface 68 (.pointer (some b)))
theorem Acc.s {W : World} {k : Nat} {x y z : Int} {b : Addr} (h : Acc W k x y z b) : (W.cell? ⟨k, 0, none⟩ = some (.int .i64 x) ∧ W.cell? ⟨k, 1, none⟩ = some (.int .i64 y) ∧ W.cell? ⟨k, 2, none⟩ = some (.int .i64 z)) ∧ W.cell? ⟨0, 0, none⟩ = some (.iface 68 (.pointer (some b))) := ⟨⟨h.c0, h.c1, h.c2⟩, h.g⟩
theorem chk_yes {p : Prop} {w : World} {e : Ending} {w' : World} (k : p) (h : Chked p w e w') : e = .returned .nilIface ∧ Below w.heap.size w w' := by
  obtain ⟨v, he, hv, hb⟩ := h
  rcases hv with ⟨_, rfl⟩ | ⟨hn, _⟩
  · exact ⟨he, hb⟩
  · exact absurd k hn
theorem chk_no {p : Prop} {w : World} {e : Ending} {w' : World} (k : ¬ p) (h : Chked p w e w') : ∃ r : ByteArray, e = .returned (.iface 56 (.string r)) ∧ Below w.heap.size w w' := by
  obtain ⟨v, he, hv, hb⟩ := h
  rcases hv with ⟨hn, _⟩ | ⟨_, r, rfl⟩
  · exact absurd hn k
  · exact ⟨r, he, hb⟩

set_option maxRecDepth 100000 in
set_option maxHeartbeats 2000000 in
theorem iacc_any (s x y z a n : Int) (b : Addr) (w : World) (hg : Glob w b) : Calls Tryd.prog 11 #[.int .i64 s, .agg #[.int .i64 x, .int .i64 y, .int .i64 z], .int .i64 a, .int .i64 n] w fun e w' => e = .returned (.bool (decide (tkacc s x y z a n))) ∧ Below w.heap.size w w' := by
  have HA := Lib.hid (Acc.new w x y z b 26 hg)
  have B0 := Lib.hid ((Below.refl w.heap.size w).alloc (Nat.le_refl _) (.cells #[.int .i64 x, .int .i64 y, .int .i64 z] 26))
  clear hg
  by_cases hp : tkacc s x y z a n
  · have HP := Lib.hid hp
    have HD := Lib.hid (decide_eq_true hp)
    have C1 : Hid (∀ W : World, Calls Tryd.prog 23 #[.int .i64 s, .agg #[.int .i64 x, .int .i64 y, .int .i64 z], .int .i64 a, .int .i64 n] W fun e w' => e = .returned .nilIface ∧ Below W.heap.size W w') := Lib.hid fun W => (check_any s x y z a n W).mono fun e w' h => chk_yes HP.out h
    have C2 : Hid (∀ W : World, Calls Tryd.prog 22 #[.nilIface, .iface 68 (.pointer (some b))] W fun e w' => e = .returned (.bool false) ∧ w' = W) := Lib.hid fun W => is_nil b W
    clear hp
    go_enter Tryd.func11, Tryd.ntmps11
    go_wp2_with fail
    obtain ⟨W0, hW0⟩ : ∃ W0, W0 = w.alloc (.cells #[.int .i64 x, .int .i64 y, .int .i64 z] 26) := ⟨_, rfl⟩
    rw [← hW0] at HA B0 ⊢
    clear hW0
    have k0 := HA.out.s
    have HAd : Hid (Acc W0.drew w.heap.size x y z b) := Lib.hid (HA.out.below (Below.refl _ _).drew)
    have k0d := HAd.out.s
    go_region_held3 (fun w' => (w'.cell? ⟨w.heap.size, 0, none⟩ = some (.int .i64 x) ∧ w'.cell? ⟨w.heap.size, 1, none⟩ = some (.int .i64 y) ∧ w'.cell? ⟨w.heap.size, 2, none⟩ = some (.int .i64 z)) ∧ w'.cell? ⟨0, 0, none⟩ = some (.iface 68 (.pointer (some b)))) (with_reducible first | assumption | exact k0 | exact k0d)
      (first
        | (go_at_call 23; (with_reducible refine (C1.out _).mono ?_); rintro e w1 ⟨rfl, hb1⟩; have hA1 := HAd.out.below hb1; have k1 := hA1.s)
        | (go_at_call 22; (with_reducible refine (C2.out _).mono ?_); rintro e w2 ⟨rfl, rfl⟩))
    have BE := Lib.hid ((below_drewN' B0.out 1).trans (hb1.mono (below_drewN' B0.out 1).size))
    clear hb1 k1 hA1
    go_wp2_with fail
    go_ret
    exact ⟨ret_bool HD.out.symm, BE.out⟩
  · have HP := Lib.hid hp
    have HD := Lib.hid (decide_eq_false hp)
    have C1 : Hid (∀ W : World, Calls Tryd.prog 23 #[.int .i64 s, .agg #[.int .i64 x, .int .i64 y, .int .i64 z], .int .i64 a, .int .i64 n] W fun e w' => ∃ r : ByteArray, e = .returned (.iface 56 (.string r)) ∧ Below W.heap.size W w') := Lib.hid fun W => (check_any s x y z a n W).mono fun e w' h => chk_no HP.out h
    have C2 : Hid (∀ (r : ByteArray) (W : World), W.cell? ⟨0, 0, none⟩ = some (.iface 68 (.pointer (some b))) → Calls Tryd.prog 22 #[.iface 56 (.string r), .iface 68 (.pointer (some b))] W fun e w' => e = .returned (.bool true) ∧ w' = W) := Lib.hid fun r W hg => is_rej r b W hg
    clear hp
    go_enter Tryd.func11, Tryd.ntmps11
    go_wp2_with fail
    obtain ⟨W0, hW0⟩ : ∃ W0, W0 = w.alloc (.cells #[.int .i64 x, .int .i64 y, .int .i64 z] 26) := ⟨_, rfl⟩
    rw [← hW0] at HA B0 ⊢
    clear hW0
    have k0 := HA.out.s
    have HAd : Hid (Acc W0.drew w.heap.size x y z b) := Lib.hid (HA.out.below (Below.refl _ _).drew)
    have k0d := HAd.out.s
    go_region_held3 (fun w' => (w'.cell? ⟨w.heap.size, 0, none⟩ = some (.int .i64 x) ∧ w'.cell? ⟨w.heap.size, 1, none⟩ = some (.int .i64 y) ∧ w'.cell? ⟨w.heap.size, 2, none⟩ = some (.int .i64 z)) ∧ w'.cell? ⟨0, 0, none⟩ = some (.iface 68 (.pointer (some b)))) (with_reducible first | assumption | exact k0 | exact k0d)
      (first
        | (go_at_call 23; (with_reducible refine (C1.out _).mono ?_); rintro e w1 ⟨r, rfl, hb1⟩; have hA1 := HAd.out.below hb1; have k1 := hA1.s)
        | (go_at_call 22; (with_reducible refine (C2.out r _ hA1.g).mono ?_); rintro e w2 ⟨rfl, rfl⟩))
    have BE := Lib.hid ((below_drewN' B0.out 1).trans (hb1.mono (below_drewN' B0.out 1).size))
    clear hb1 k1 hA1
    go_wp2_with fail
    go_ret
    exact ⟨ret_bool HD.out.symm, BE.out⟩

end Go.Proofs.YtbmlckhjjfipbaaDoor
