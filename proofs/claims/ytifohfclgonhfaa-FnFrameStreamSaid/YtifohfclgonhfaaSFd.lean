/- Chapter 4, the model's FrameDecode and FrameEliciting; what the program's five functions are held to. -/
import Derived.Test.YtifohfclgonhfaaSDec
import Derived.Deep.DeepCutAuto
namespace Go.Proofs.Ytifohfclgonhfaa
open Go.RowKit
set_option linter.unusedVariables false
set_option linter.unusedSimpArgs false

/-- FrameDecode's answer. -/
def FdPost (w : World) (o : Option (Fr × Nat)) (e : Ending) (w' : World) : Prop :=
  (o = none ∧ ∃ (a : Option Addr) (c : Nat), e = .returned (.tuple #[frV ⟨0, 0, 0, 0, ⟨#[]⟩, []⟩ (.slice a 0 c), .int .i64 0, .bool false]) ∧ Below w.heap.size w w' ∧ OwnRg w' w.heap.size (.slice a 0 c) [])
  ∨ ∃ (f : Fr) (n : Nat) (a : Option Addr) (c : Nat), o = some (f, n) ∧ e = .returned (.tuple #[frV f (.slice a f.rs.length c), .int .i64 (n : Int), .bool true]) ∧ Below w.heap.size w w' ∧ OwnRg w' w.heap.size (.slice a f.rs.length c) f.rs
/-- Must the frame be acknowledged? -/
def fel (f : Fr) : Bool := fok f && decide (f.k ≠ 0 ∧ f.k ≠ 2 ∧ f.k ≠ 10)

theorem results_cell_tmp2 {fn : Func} {p u x : Tmp} {ty : TypeId} (h : fn.results = #[.cell p ty, .tmp u, .tmp x]) (tmps : Array Value) (P : Program) (w : World) :
    (results fn tmps).run P w =
      ((asAddr (tmps.getD p undef)).run P w).andThen fun a w₁ => ((loadVar ty a).run P w₁).andThen fun v w₂ => .ok (.tuple #[v, tmps.getD u undef, tmps.getD x undef]) w₂ := by
  simp only [results, h]
  simp [Sem.run_bind, Result.andThen]

set_option maxRecDepth 100000 in
set_option maxHeartbeats 1000000 in
theorem sfdec_any (s : ByteArray) (w : World) (hs : s.size ≤ 4194304) : Calls Try.prog 21 #[.string s] w (FdPost w (dec4 s)) := by
  have B0 : Hid (Below w.heap.size w (w.alloc (.cells [Value.int .i64 0, .int .i64 0, .int .i64 0, .int .i64 0, .string ⟨#[]⟩, .slice none 0 0].toArray 25))) := Lib.hid ((Below.refl _ _).alloc (Nat.le_refl _) _)
  have F0 := Frm.new w 25 [.int .i64 0, .int .i64 0, .int .i64 0, .int .i64 0, .string ⟨#[]⟩, .slice none 0 0]
  have T0 := Thaw.new w 25 [.int .i64 0, .int .i64 0, .int .i64 0, .int .i64 0, .string ⟨#[]⟩, .slice none 0 0]
  have hs0 : (w.alloc (.cells [Value.int .i64 0, .int .i64 0, .int .i64 0, .int .i64 0, .string ⟨#[]⟩, .slice none 0 0].toArray 25)).heap.size = w.heap.size + 1 := by simp
  have hdec := fun f n (h : dec4 s = some (f, n)) => (fenc_size (dec4_some h).1)
  have hdec2 := fun f n (h : dec4 s = some (f, n)) => (dec4_some h).2.2
  have HD := Lib.hid hdec
  have HD2 := Lib.hid hdec2
  clear hdec hdec2
  go_enter Try.func21, Try.ntmps21
  go_wp2_with fail
  refine (sdec_any s _ hs).mono ?_
  rintro e w1 (⟨hn, rfl, hb1⟩ | ⟨f, n, v, hn, rfl, hb1, ho1⟩)
  · have HN := Lib.hid hn
    clear hn
    have hlt : w.heap.size < w1.heap.size := by have := hb1.size; omega
    have BA : Below w1.heap.size w1 (w1.alloc (.cells #[.int .i64 0, .int .i64 0, .int .i64 0, .int .i64 0, .string ⟨#[]⟩, .slice none 0 0] 25)) := (Below.refl _ _).alloc (Nat.le_refl _) _
    have RC1 := Lib.hid (Frm.below (Frm.below F0 hb1 (by omega)) BA hlt)
    have RT1 := Lib.hid (Thaw.below (Thaw.below T0 hb1 (by omega)) BA hlt)
    have FC1 := Lib.hid (Frm.new w1 25 [.int .i64 0, .int .i64 0, .int .i64 0, .int .i64 0, .string ⟨#[]⟩, .slice none 0 0])
    have HB1 := Lib.hid ((B0.out.trans (hb1.mono (by omega))).trans (BA.mono (by omega)))
    clear hb1 F0 T0 BA
    unfold frV
    go_upto_region 2 with fail
    have FC1 : Hid (Frm (w1.alloc (.cells #[.int .i64 0, .int .i64 0, .int .i64 0, .int .i64 0, .string ⟨#[]⟩, .slice none 0 0] 25)) w1.heap.size [.int .i64 0, .int .i64 0, .int .i64 0, .int .i64 0, .string ⟨#[]⟩, .slice none 0 0]) := FC1
    generalize (w1.alloc (.cells #[.int .i64 0, .int .i64 0, .int .i64 0, .int .i64 0, .string ⟨#[]⟩, .slice none 0 0] 25)) = W1 at *
    obtain ⟨a0, a1, a2, a3, a4, a5⟩ : W1.cell? ⟨w1.heap.size, 0, none⟩ = some (.int .i64 0) ∧ W1.cell? ⟨w1.heap.size, 1, none⟩ = some (.int .i64 0) ∧ W1.cell? ⟨w1.heap.size, 2, none⟩ = some (.int .i64 0) ∧ W1.cell? ⟨w1.heap.size, 3, none⟩ = some (.int .i64 0) ∧ W1.cell? ⟨w1.heap.size, 4, none⟩ = some (.string ⟨#[]⟩) ∧ W1.cell? ⟨w1.heap.size, 5, none⟩ = some (.slice none 0 0) := ⟨FC1.out 0, FC1.out 1, FC1.out 2, FC1.out 3, FC1.out 4, FC1.out 5⟩
    obtain ⟨r0, r1, r2, r3, r4, r5⟩ : W1.cell? ⟨w.heap.size, 0, none⟩ = some (.int .i64 0) ∧ W1.cell? ⟨w.heap.size, 1, none⟩ = some (.int .i64 0) ∧ W1.cell? ⟨w.heap.size, 2, none⟩ = some (.int .i64 0) ∧ W1.cell? ⟨w.heap.size, 3, none⟩ = some (.int .i64 0) ∧ W1.cell? ⟨w.heap.size, 4, none⟩ = some (.string ⟨#[]⟩) ∧ W1.cell? ⟨w.heap.size, 5, none⟩ = some (.slice none 0 0) := ⟨RC1.out 0, RC1.out 1, RC1.out 2, RC1.out 3, RC1.out 4, RC1.out 5⟩
    obtain ⟨t0, t1, t2, t3, t4, t5⟩ : W1.frozen? ⟨w.heap.size, 0, none⟩ = false ∧ W1.frozen? ⟨w.heap.size, 1, none⟩ = false ∧ W1.frozen? ⟨w.heap.size, 2, none⟩ = false ∧ W1.frozen? ⟨w.heap.size, 3, none⟩ = false ∧ W1.frozen? ⟨w.heap.size, 4, none⟩ = false ∧ W1.frozen? ⟨w.heap.size, 5, none⟩ = false := ⟨RT1.out 0, RT1.out 1, RT1.out 2, RT1.out 3, RT1.out 4, RT1.out 5⟩
    have RC6 : Hid (Frm ((((((W1.setCell ⟨w.heap.size, 0, none⟩ (.int .i64 0)).setCell ⟨w.heap.size, 1, none⟩ (.int .i64 0)).setCell ⟨w.heap.size, 2, none⟩ (.int .i64 0)).setCell ⟨w.heap.size, 3, none⟩ (.int .i64 0)).setCell ⟨w.heap.size, 4, none⟩ (.string ⟨#[]⟩)).setCell ⟨w.heap.size, 5, none⟩ (.slice none 0 0)) w.heap.size [.int .i64 0, .int .i64 0, .int .i64 0, .int .i64 0, .string ⟨#[]⟩, .slice none 0 0]) := Lib.hid ((((((RC1.out.set (i := 0) (by simp) (.int .i64 0)).set (i := 1) (by simp) (.int .i64 0)).set (i := 2) (by simp) (.int .i64 0)).set (i := 3) (by simp) (.int .i64 0)).set (i := 4) (by simp) (.string ⟨#[]⟩)).set (i := 5) (by simp) (.slice none 0 0))
    have B6 : Hid (Below w.heap.size w ((((((W1.setCell ⟨w.heap.size, 0, none⟩ (.int .i64 0)).setCell ⟨w.heap.size, 1, none⟩ (.int .i64 0)).setCell ⟨w.heap.size, 2, none⟩ (.int .i64 0)).setCell ⟨w.heap.size, 3, none⟩ (.int .i64 0)).setCell ⟨w.heap.size, 4, none⟩ (.string ⟨#[]⟩)).setCell ⟨w.heap.size, 5, none⟩ (.slice none 0 0))) := Lib.hid (Below.setCell (Below.setCell (Below.setCell (Below.setCell (Below.setCell (Below.setCell HB1.out (Nat.le_refl _) _) (Nat.le_refl _) _) (Nat.le_refl _) _) (Nat.le_refl _) _) (Nat.le_refl _) _) (Nat.le_refl _) _)
    go_wp2_with fail
    generalize ((((((W1.setCell ⟨w.heap.size, 0, none⟩ (.int .i64 0)).setCell ⟨w.heap.size, 1, none⟩ (.int .i64 0)).setCell ⟨w.heap.size, 2, none⟩ (.int .i64 0)).setCell ⟨w.heap.size, 3, none⟩ (.int .i64 0)).setCell ⟨w.heap.size, 4, none⟩ (.string ⟨#[]⟩)).setCell ⟨w.heap.size, 5, none⟩ (.slice none 0 0)) = W6 at *
    obtain ⟨s0, s1, s2, s3, s4, s5⟩ : W6.cell? ⟨w.heap.size, 0, none⟩ = some (.int .i64 0) ∧ W6.cell? ⟨w.heap.size, 1, none⟩ = some (.int .i64 0) ∧ W6.cell? ⟨w.heap.size, 2, none⟩ = some (.int .i64 0) ∧ W6.cell? ⟨w.heap.size, 3, none⟩ = some (.int .i64 0) ∧ W6.cell? ⟨w.heap.size, 4, none⟩ = some (.string ⟨#[]⟩) ∧ W6.cell? ⟨w.heap.size, 5, none⟩ = some (.slice none 0 0) := ⟨RC6.out 0, RC6.out 1, RC6.out 2, RC6.out 3, RC6.out 4, RC6.out 5⟩
    refine bodyPost_ret (v := .tuple #[frV ⟨0, 0, 0, 0, ⟨#[]⟩, []⟩ (.slice none 0 0), .int .i64 0, .bool false]) ?hr rfl ?_
    case hr => rw [results_cell_tmp2 rfl]; unfold frV; go_simp
    exact .inl ⟨HN.out, none, 0, rfl, B6.out, ⟨rfl, .inl ⟨rfl, rfl⟩⟩⟩
  · obtain ⟨ra, rc, rfl⟩ := ownsRow_shape ho1
    have HN := Lib.hid hn
    have hnp : 0 < n := by have := HD.out f n hn; have := HD2.out f n hn; omega
    have hnp' : (0 : Int) < (n : Int) := by omega
    have HNE : Hid (∀ x, (Value.slice ra f.rs.length rc).ownBlock = some x → w.heap.size ≠ x) := Lib.hid (fun x hx => by have := (World.ownsRow.lt ho1 x hx).1; omega)
    have HO1 : Hid (OwnRg w1 w.heap.size (.slice ra f.rs.length rc) f.rs) := Lib.hid (OwnRg.lower ho1 (by omega))
    clear hn ho1
    have hlt : w.heap.size < w1.heap.size := by have := hb1.size; omega
    have BA : Below w1.heap.size w1 (w1.alloc (.cells #[.int .i64 f.k, .int .i64 f.a, .int .i64 f.b, .int .i64 f.c, .string f.d, .slice ra f.rs.length rc] 25)) := (Below.refl _ _).alloc (Nat.le_refl _) _
    have RC1 := Lib.hid (Frm.below (Frm.below F0 hb1 (by omega)) BA hlt)
    have RT1 := Lib.hid (Thaw.below (Thaw.below T0 hb1 (by omega)) BA hlt)
    have FC1 := Lib.hid (Frm.new w1 25 [.int .i64 f.k, .int .i64 f.a, .int .i64 f.b, .int .i64 f.c, .string f.d, .slice ra f.rs.length rc])
    have HB1 := Lib.hid ((B0.out.trans (hb1.mono (by omega))).trans (BA.mono (by omega)))
    have HO1 := Lib.hid (World.ownsRow.alloc HO1.out (.cells #[.int .i64 f.k, .int .i64 f.a, .int .i64 f.b, .int .i64 f.c, .string f.d, .slice ra f.rs.length rc] 25))
    clear hb1 F0 T0 BA
    unfold frV
    go_upto_region 2 with fail
    have FC1 : Hid (Frm (w1.alloc (.cells #[.int .i64 f.k, .int .i64 f.a, .int .i64 f.b, .int .i64 f.c, .string f.d, .slice ra f.rs.length rc] 25)) w1.heap.size [.int .i64 f.k, .int .i64 f.a, .int .i64 f.b, .int .i64 f.c, .string f.d, .slice ra f.rs.length rc]) := FC1
    generalize (w1.alloc (.cells #[.int .i64 f.k, .int .i64 f.a, .int .i64 f.b, .int .i64 f.c, .string f.d, .slice ra f.rs.length rc] 25)) = W1 at *
    obtain ⟨a0, a1, a2, a3, a4, a5⟩ : W1.cell? ⟨w1.heap.size, 0, none⟩ = some (.int .i64 f.k) ∧ W1.cell? ⟨w1.heap.size, 1, none⟩ = some (.int .i64 f.a) ∧ W1.cell? ⟨w1.heap.size, 2, none⟩ = some (.int .i64 f.b) ∧ W1.cell? ⟨w1.heap.size, 3, none⟩ = some (.int .i64 f.c) ∧ W1.cell? ⟨w1.heap.size, 4, none⟩ = some (.string f.d) ∧ W1.cell? ⟨w1.heap.size, 5, none⟩ = some (.slice ra f.rs.length rc) := ⟨FC1.out 0, FC1.out 1, FC1.out 2, FC1.out 3, FC1.out 4, FC1.out 5⟩
    obtain ⟨r0, r1, r2, r3, r4, r5⟩ : W1.cell? ⟨w.heap.size, 0, none⟩ = some (.int .i64 0) ∧ W1.cell? ⟨w.heap.size, 1, none⟩ = some (.int .i64 0) ∧ W1.cell? ⟨w.heap.size, 2, none⟩ = some (.int .i64 0) ∧ W1.cell? ⟨w.heap.size, 3, none⟩ = some (.int .i64 0) ∧ W1.cell? ⟨w.heap.size, 4, none⟩ = some (.string ⟨#[]⟩) ∧ W1.cell? ⟨w.heap.size, 5, none⟩ = some (.slice none 0 0) := ⟨RC1.out 0, RC1.out 1, RC1.out 2, RC1.out 3, RC1.out 4, RC1.out 5⟩
    obtain ⟨t0, t1, t2, t3, t4, t5⟩ : W1.frozen? ⟨w.heap.size, 0, none⟩ = false ∧ W1.frozen? ⟨w.heap.size, 1, none⟩ = false ∧ W1.frozen? ⟨w.heap.size, 2, none⟩ = false ∧ W1.frozen? ⟨w.heap.size, 3, none⟩ = false ∧ W1.frozen? ⟨w.heap.size, 4, none⟩ = false ∧ W1.frozen? ⟨w.heap.size, 5, none⟩ = false := ⟨RT1.out 0, RT1.out 1, RT1.out 2, RT1.out 3, RT1.out 4, RT1.out 5⟩
    have RC6 : Hid (Frm ((((((W1.setCell ⟨w.heap.size, 0, none⟩ (.int .i64 f.k)).setCell ⟨w.heap.size, 1, none⟩ (.int .i64 f.a)).setCell ⟨w.heap.size, 2, none⟩ (.int .i64 f.b)).setCell ⟨w.heap.size, 3, none⟩ (.int .i64 f.c)).setCell ⟨w.heap.size, 4, none⟩ (.string f.d)).setCell ⟨w.heap.size, 5, none⟩ (.slice ra f.rs.length rc)) w.heap.size [.int .i64 f.k, .int .i64 f.a, .int .i64 f.b, .int .i64 f.c, .string f.d, .slice ra f.rs.length rc]) := Lib.hid ((((((RC1.out.set (i := 0) (by simp) (.int .i64 f.k)).set (i := 1) (by simp) (.int .i64 f.a)).set (i := 2) (by simp) (.int .i64 f.b)).set (i := 3) (by simp) (.int .i64 f.c)).set (i := 4) (by simp) (.string f.d)).set (i := 5) (by simp) (.slice ra f.rs.length rc))
    have B6 : Hid (Below w.heap.size w ((((((W1.setCell ⟨w.heap.size, 0, none⟩ (.int .i64 f.k)).setCell ⟨w.heap.size, 1, none⟩ (.int .i64 f.a)).setCell ⟨w.heap.size, 2, none⟩ (.int .i64 f.b)).setCell ⟨w.heap.size, 3, none⟩ (.int .i64 f.c)).setCell ⟨w.heap.size, 4, none⟩ (.string f.d)).setCell ⟨w.heap.size, 5, none⟩ (.slice ra f.rs.length rc))) := Lib.hid (Below.setCell (Below.setCell (Below.setCell (Below.setCell (Below.setCell (Below.setCell HB1.out (Nat.le_refl _) _) (Nat.le_refl _) _) (Nat.le_refl _) _) (Nat.le_refl _) _) (Nat.le_refl _) _) (Nat.le_refl _) _)
    have O6 : Hid (OwnRg ((((((W1.setCell ⟨w.heap.size, 0, none⟩ (.int .i64 f.k)).setCell ⟨w.heap.size, 1, none⟩ (.int .i64 f.a)).setCell ⟨w.heap.size, 2, none⟩ (.int .i64 f.b)).setCell ⟨w.heap.size, 3, none⟩ (.int .i64 f.c)).setCell ⟨w.heap.size, 4, none⟩ (.string f.d)).setCell ⟨w.heap.size, 5, none⟩ (.slice ra f.rs.length rc)) w.heap.size (.slice ra f.rs.length rc) f.rs) := Lib.hid (own_far (own_far (own_far (own_far (own_far (own_far HO1.out HNE.out) HNE.out) HNE.out) HNE.out) HNE.out) HNE.out)
    go_wp2_with fail
    generalize ((((((W1.setCell ⟨w.heap.size, 0, none⟩ (.int .i64 f.k)).setCell ⟨w.heap.size, 1, none⟩ (.int .i64 f.a)).setCell ⟨w.heap.size, 2, none⟩ (.int .i64 f.b)).setCell ⟨w.heap.size, 3, none⟩ (.int .i64 f.c)).setCell ⟨w.heap.size, 4, none⟩ (.string f.d)).setCell ⟨w.heap.size, 5, none⟩ (.slice ra f.rs.length rc)) = W6 at *
    obtain ⟨s0, s1, s2, s3, s4, s5⟩ : W6.cell? ⟨w.heap.size, 0, none⟩ = some (.int .i64 f.k) ∧ W6.cell? ⟨w.heap.size, 1, none⟩ = some (.int .i64 f.a) ∧ W6.cell? ⟨w.heap.size, 2, none⟩ = some (.int .i64 f.b) ∧ W6.cell? ⟨w.heap.size, 3, none⟩ = some (.int .i64 f.c) ∧ W6.cell? ⟨w.heap.size, 4, none⟩ = some (.string f.d) ∧ W6.cell? ⟨w.heap.size, 5, none⟩ = some (.slice ra f.rs.length rc) := ⟨RC6.out 0, RC6.out 1, RC6.out 2, RC6.out 3, RC6.out 4, RC6.out 5⟩
    refine bodyPost_ret (v := .tuple #[frV f (.slice ra f.rs.length rc), .int .i64 (n : Int), .bool true]) ?hr rfl ?_
    case hr => rw [results_cell_tmp2 rfl]; unfold frV; go_simp
    exact .inr ⟨f, n, ra, rc, HN.out, rfl, B6.out, O6.out⟩

end Go.Proofs.Ytifohfclgonhfaa
