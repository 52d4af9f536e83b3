/- The model's l22Copy. -/
import Derived.Test.YtccolpaenmebeaaPk
import Derived.Laws.ResultCell
import Derived.Deep.Cut
import Derived.Deep.CutBlock
namespace Go.Proofs.Ytccolpaenmebeaa
open Go.RowKit
set_option linter.unusedVariables false
set_option linter.unusedSimpArgs false

theorem results_c1 {fn : Func} {p : Tmp} {ty : TypeId} (h : fn.results = #[.cell p ty]) (tmps : Array Value) (P : Program) (w : World) :
    (results fn tmps).run P w = ((asAddr (tmps.getD p undef)).run P w).andThen fun a w₁ => (loadVar ty a).run P w₁ := by
  simp only [results, h]
  simp [Sem.run_bind, Result.andThen]
/-- A state of the call's own. -/
def CopyL (w : World) (n g : Int) (l : List Pk) (e : Ending) (w' : World) : Prop :=
  ∃ v, e = .returned (.agg #[.int .i64 n, v, .int .i64 g]) ∧ OwnPk w' w.heap.size v l ∧ Below w.heap.size w w' ∧ v.ownBlock ≠ none
set_option maxRecDepth 100000 in
set_option maxHeartbeats 2000000 in
theorem slcopy_any (n g : Int) (v : Value) (l : List Pk) (w : World) (hs : Pks w v l) (hnk : NilOk v) (hl : l.length ≤ 1048576) : Calls Try.prog 61 #[.agg #[.int .i64 n, v, .int .i64 g]] w (CopyL w n g l) := by
  have HS := Lib.hid (SrcP.of hs hnk)
  obtain ⟨a, c, rfl, _, _⟩ := hs
  clear hnk
  obtain ⟨W1, hW1⟩ : ∃ W1, W1 = (w.alloc (.cells #[.int .i64 n, .slice a l.length c, .int .i64 g] 24)).alloc (.cells #[.int .i64 0, .slice none 0 0, .int .i64 0] 24) := ⟨_, rfl⟩
  have e1 : (w.alloc (.cells #[.int .i64 n, .slice a l.length c, .int .i64 g] 24)).heap.size = w.heap.size + 1 := by simp
  have hz1 : W1.heap.size = w.heap.size + 1 + 1 := by rw [hW1]; simp
  have X := Lib.hid (show C3 W1 w.heap.size (.int .i64 n) (.slice a l.length c) (.int .i64 g) by rw [hW1]; exact (C3.new w _ _ _ _).alloc _)
  have XF := Lib.hid (show Soft W1 w.heap.size by rw [hW1]; exact (Soft.new w #[.int .i64 n, .slice a l.length c, .int .i64 g] _).below ((Below.refl _ _).alloc (Nat.le_refl _) _) (by omega))
  have Z := Lib.hid (show C3 W1 (w.heap.size + 1) (.int .i64 0) (.slice none 0 0) (.int .i64 0) by rw [hW1, ← e1]; exact C3.new _ _ _ _ _)
  have ZF := Lib.hid (show Soft W1 (w.heap.size + 1) by rw [hW1, ← e1]; exact Soft.new _ _ _)
  have B1 := Lib.hid (show Below w.heap.size w W1 by rw [hW1]; exact ((Below.refl _ _).alloc (Nat.le_refl _) _).alloc (by omega) _)
  have U : Below W1.heap.size W1 (W1.alloc (.cells #[] 57)) := (Below.refl _ _).alloc (Nat.le_refl _) _
  have X2 := Lib.hid (X.out.below U)
  have XF2 := Lib.hid (XF.out.below U X.out.lt)
  have Z2 := Lib.hid (Z.out.below U)
  have ZF2 := Lib.hid (ZF.out.below U Z.out.lt)
  have B2 := Lib.hid (B1.out.trans (U.mono B1.out.size))
  have O2 := Lib.hid (OwnPk.new w.heap.size W1 B1.out.size)
  have S2 := Lib.hid ((HS.out.below B1.out).below U)
  have HZ1 := Lib.hid hz1
  have O3 : Hid (OwnPk (((w.alloc (.cells #[.int .i64 n, .slice a l.length c, .int .i64 g] 24)).alloc (.cells #[.int .i64 0, .slice none 0 0, .int .i64 0] 24)).alloc (.cells #[] 57)) w.heap.size (.slice (some ⟨w.heap.size + 1 + 1, 0, none⟩) 0 0) []) := Lib.hid (by have k := O2.out; rw [hz1, hW1] at k; exact k)
  have S3 : Hid (SrcP (((w.alloc (.cells #[.int .i64 n, .slice a l.length c, .int .i64 g] 24)).alloc (.cells #[.int .i64 0, .slice none 0 0, .int .i64 0] 24)).alloc (.cells #[] 57)) (.slice a l.length c) l) := Lib.hid (by have k := S2.out; rw [hW1] at k; exact k)
  have hz2 : (((w.alloc (.cells #[.int .i64 n, .slice a l.length c, .int .i64 g] 24)).alloc (.cells #[.int .i64 0, .slice none 0 0, .int .i64 0] 24)).alloc (.cells #[] 57)).heap.size = w.heap.size + 1 + 1 + 1 := by simp
  have HZ2 := Lib.hid hz2
  rw [hW1] at X2 XF2 Z2 ZF2 B2
  clear U HS X XF Z ZF B1 O2 S2 hz2 hz1 hW1 HZ1
  obtain ⟨x0, x1, x2⟩ := X2.out
  go_enter Try.func61, Try.ntmps61
  go_wp2_with (at_builtin; refine wpList_app_pk _ rfl _ _ rfl w.heap.size _ [] l rfl O3.out _ rfl S3.out ?c1 ?c2 ?_)
  case c1 => simp; omega
  case c2 => have := HZ2.out; omega
  intro aa nn cc w3 hO hnn hg hgg hnil
  have hne : (Value.slice aa nn cc).ownBlock ≠ none := fun e => by rcases hgg with h | h <;> (rw [h] at e; cases e)
  have hown : ∀ q, (Value.slice aa nn cc).ownBlock = some q → q ≠ w.heap.size ∧ q ≠ w.heap.size + 1 := fun q hq => by
    rcases hgg with h | h
    · rw [h] at hq; simp [Value.ownBlock] at hq; omega
    · rw [h] at hq; have := Option.some.inj hq; have := HZ2.out; omega
  have X3 := Lib.hid (X2.out.kept hg (fun e => by simp [Value.ownBlock] at e <;> omega))
  have XF3 := Lib.hid (XF2.out.kept hg X2.out.lt (fun e => by simp [Value.ownBlock] at e <;> omega))
  have Z3 := Lib.hid (Z2.out.kept hg (fun e => by simp [Value.ownBlock] at e <;> omega))
  have ZF3 := Lib.hid (ZF2.out.kept hg Z2.out.lt (fun e => by simp [Value.ownBlock] at e <;> omega))
  have B3 := Lib.hid (B2.out.grown hg B2.out.size (fun q hq => by simp [Value.ownBlock] at hq; omega))
  have hnn' : nn = l.length := by have := hnn.out; simpa using this
  subst hnn'
  have HO := Lib.hid (show OwnPk w3 w.heap.size (.slice aa l.length cc) l by simpa using hO)
  have HN := Lib.hid hne
  have HW := Lib.hid hown
  clear hO hnn hg hgg hnil hne hown X2 XF2 Z2 ZF2 B2 x0 x1 x2
  obtain ⟨x0, x1, x2⟩ := X3.out
  have f1 := XF3.out 1
  have X4 := Lib.hid (X3.out.set1 (.slice aa l.length cc))
  have Z4 := Lib.hid (Z3.out.far (c := w.heap.size) (i := 1) (x := .slice aa l.length cc) (by omega))
  have ZF4 := Lib.hid (ZF3.out.set ⟨w.heap.size, 1, none⟩ (.slice aa l.length cc))
  have B4 := Lib.hid (B3.out.setCell (p := ⟨w.heap.size, 1, none⟩) (Nat.le_refl _) (.slice aa l.length cc))
  have HO4 := Lib.hid (HO.out.far (b := w.heap.size) (i := 1) (u := .slice aa l.length cc) (fun e => (HW.out _ e).1 rfl))
  go_upto_region 2 with fail
  generalize w3.setCell ⟨w.heap.size, 1, none⟩ (.slice aa l.length cc) = W4 at X4 Z4 ZF4 B4 HO4 ⊢
  clear X3 XF3 Z3 ZF3 B3 HO x0 x1 x2 f1
  obtain ⟨x0, x1, x2⟩ := X4.out
  obtain ⟨z0, z1, z2⟩ := Z4.out
  have f0 := ZF4.out 0
  have f1 := ZF4.out 1
  have f2 := ZF4.out 2
  have hw1 : ∀ (q : Nat) (h : q = w.heap.size + 1), (Value.slice aa l.length cc).ownBlock ≠ some q := fun q h e => (HW.out q e).2 h
  have E := Lib.hid (((Z4.out.set0 (.int .i64 n)).set1 (.slice aa l.length cc)).set2 (.int .i64 g))
  have EO := Lib.hid (((HO4.out.far (i := 0) (u := .int .i64 n) (hw1 _ rfl)).far (i := 1) (u := .slice aa l.length cc) (hw1 _ rfl)).far (i := 2) (u := .int .i64 g) (hw1 _ rfl))
  have EB := Lib.hid (((B4.out.setCell (p := ⟨w.heap.size + 1, 0, none⟩) (Nat.le_succ _) (.int .i64 n)).setCell (p := ⟨w.heap.size + 1, 1, none⟩) (Nat.le_succ _) (.slice aa l.length cc)).setCell (p := ⟨w.heap.size + 1, 2, none⟩) (Nat.le_succ _) (.int .i64 g))
  clear hw1
  go_wp2_with fail
  generalize ((W4.setCell ⟨w.heap.size + 1, 0, none⟩ (.int .i64 n)).setCell ⟨w.heap.size + 1, 1, none⟩ (.slice aa l.length cc)).setCell ⟨w.heap.size + 1, 2, none⟩ (.int .i64 g) = WF at E EO EB ⊢
  obtain ⟨k0, k1, k2⟩ := E.out
  refine bodyPost_ret (v := .agg #[.int .i64 n, .slice aa l.length cc, .int .i64 g]) ?hr rfl ?_
  case hr => rw [results_c1 rfl]; go_simp
  exact ⟨_, rfl, EO.out, EB.out, HN.out⟩

end Go.Proofs.Ytccolpaenmebeaa
