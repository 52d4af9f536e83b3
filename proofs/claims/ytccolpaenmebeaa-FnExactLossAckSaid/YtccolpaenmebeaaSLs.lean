/- The model's l22Send. -/
import Derived.Test.YtccolpaenmebeaaSLc
import Derived.StillTailTactics
import Derived.BigRegion
namespace Go.Proofs.Ytccolpaenmebeaa
open Go.RowKit
set_option linter.unusedVariables false
set_option linter.unusedSimpArgs false

theorem results_ctt {fn : Func} {p t u : Tmp} {ty : TypeId} (h : fn.results = #[.cell p ty, .tmp t, .tmp u]) (tmps : Array Value) (P : Program) (w : World) :
    (results fn tmps).run P w = ((asAddr (tmps.getD p undef)).run P w).andThen fun a w₁ => ((loadVar ty a).run P w₁).andThen fun v w₂ => .ok (.tuple #[v, tmps.getD t undef, tmps.getD u undef]) w₂ := by
  simp only [results, h]
  simp [Sem.run_bind, Result.andThen]
/-- What a sending hands back: a state of the call's own, a number, whether it was sent. -/
def SendL (w : World) (r : Ls × Int × Bool) (e : Ending) (w' : World) : Prop :=
  ∃ v, e = .returned (.tuple #[.agg #[.int .i64 r.1.1, v, .int .i64 r.1.2.2], .int .i64 r.2.1, .bool r.2.2]) ∧ OwnPk w' w.heap.size v r.1.2.1 ∧ Below w.heap.size w w'
theorem lsend_yes {s : Ls} {t z : Int} (h : ¬ lfull s t) : lsend s t z = ((s.1 + 1, s.2.1 ++ [(s.1, t, z)], s.2.2), s.1, true) := by unfold lsend; rw [if_neg h]
theorem lsend_no {s : Ls} {t z : Int} (h : lfull s t) : lsend s t z = (s, -1, false) := by unfold lsend; rw [if_pos h]
theorem last_pk {w : World} {g o : Nat} {l : List Pk} (h : ∀ i, i < l.length → PkAt w g (o + i * 3) (l.getD i pkD)) (k : Nat) (hk : l.length = k + 1) : w.cell? ⟨g, o + k * 3 + 1, none⟩ = some (.int .i64 (l.getD k pkD).2.1) := (h k (by omega)).2.1

set_option maxRecDepth 100000 in
set_option maxHeartbeats 8000000 in
theorem slsend_any (n g t z : Int) (v : Value) (l : List Pk) (w : World) (hs : Pks w v l) (hnk : NilOk v) (hl : l.length ≤ 1048576) (hn : -2000 ≤ n ∧ n ≤ 2000) : Calls Try.prog 41 #[.agg #[.int .i64 n, v, .int .i64 g], .int .i64 t, .int .i64 z] w (SendL w (lsend (n, l, g) t z)) := by
  have HS := Lib.hid hs
  have HNK := Lib.hid hnk
  obtain ⟨a, c, rfl, hcc, hs⟩ := hs
  have HC := Lib.hid hs
  clear hnk hs
  have e1 : (w.alloc (.cells #[.int .i64 n, .slice a l.length c, .int .i64 g] 24)).heap.size = w.heap.size + 1 := by simp
  have X := Lib.hid (show C3 ((w.alloc (.cells #[.int .i64 n, .slice a l.length c, .int .i64 g] 24)).alloc (.cells #[.int .i64 0, .slice none 0 0, .int .i64 0] 24)) w.heap.size (.int .i64 n) (.slice a l.length c) (.int .i64 g) from (C3.new w _ _ _ _).alloc _)
  have Z := Lib.hid (show C3 ((w.alloc (.cells #[.int .i64 n, .slice a l.length c, .int .i64 g] 24)).alloc (.cells #[.int .i64 0, .slice none 0 0, .int .i64 0] 24)) (w.heap.size + 1) (.int .i64 0) (.slice none 0 0) (.int .i64 0) by rw [← e1]; exact C3.new _ _ _ _ _)
  have ZF := Lib.hid (show Soft ((w.alloc (.cells #[.int .i64 n, .slice a l.length c, .int .i64 g] 24)).alloc (.cells #[.int .i64 0, .slice none 0 0, .int .i64 0] 24)) (w.heap.size + 1) by rw [← e1]; exact Soft.new _ _ _)
  have B1 := Lib.hid (show Below w.heap.size w ((w.alloc (.cells #[.int .i64 n, .slice a l.length c, .int .i64 g] 24)).alloc (.cells #[.int .i64 0, .slice none 0 0, .int .i64 0] 24)) from ((Below.refl _ _).alloc (Nat.le_refl _) _).alloc (by omega) _)
  have HZ1 := Lib.hid (show ((w.alloc (.cells #[.int .i64 n, .slice a l.length c, .int .i64 g] 24)).alloc (.cells #[.int .i64 0, .slice none 0 0, .int .i64 0] 24)).heap.size = w.heap.size + 1 + 1 by simp)
  have CP := Lib.hid (fun W (b : Below w.heap.size w W) => slcopy_any n g _ l W (HS.out.below b) HNK.out hl)
  obtain ⟨hn1, hn2⟩ := hn
  clear e1
  obtain ⟨x0, x1, x2⟩ := X.out
  by_cases k1 : 999 < n
  case pos =>
    have HF := Lib.hid (lsend_no (s := (n, l, g)) (t := t) (z := z) (.inl k1))
    have hd1 : decide (999 < n) = true := decide_eq_true k1
    go_enter Try.func41, Try.ntmps41
    go_wp2_with fail
    refine (CP.out _ B1.out).mono ?_
    rintro e w2 ⟨v2, rfl, ho, hb, hnn⟩
    obtain ⟨a2, c2, rfl⟩ := OwnPk.shape ho
    have HB := Lib.hid (B1.out.trans (hb.mono B1.out.size))
    have Z2 := Lib.hid (Z.out.below hb)
    have ZF2 := Lib.hid (ZF.out.below hb Z.out.lt)
    have hw : ∀ q, q = w.heap.size + 1 → (Value.slice a2 l.length c2).ownBlock ≠ some q := fun q h e => by have := (World.ownsRow.lt ho q e).1; have := HZ1.out; omega
    have E := Lib.hid (((Z2.out.set0 (.int .i64 n)).set1 (.slice a2 l.length c2)).set2 (.int .i64 g))
    have ho' := OwnPk.lower ho B1.out.size
    have EO := Lib.hid (((ho'.far (i := 0) (u := .int .i64 n) (hw _ rfl)).far (i := 1) (u := .slice a2 l.length c2) (hw _ rfl)).far (i := 2) (u := .int .i64 g) (hw _ rfl))
    have EB := Lib.hid (((HB.out.setCell (p := ⟨w.heap.size + 1, 0, none⟩) (Nat.le_succ _) (.int .i64 n)).setCell (p := ⟨w.heap.size + 1, 1, none⟩) (Nat.le_succ _) (.slice a2 l.length c2)).setCell (p := ⟨w.heap.size + 1, 2, none⟩) (Nat.le_succ _) (.int .i64 g))
    clear ho ho' hb hnn hw x0 x1 x2
    obtain ⟨z0, z1, z2⟩ := Z2.out
    have f0 := ZF2.out 0
    have f1 := ZF2.out 1
    have f2 := ZF2.out 2
    go_wp2_with fail
    generalize ((w2.setCell ⟨w.heap.size + 1, 0, none⟩ (.int .i64 n)).setCell ⟨w.heap.size + 1, 1, none⟩ (.slice a2 l.length c2)).setCell ⟨w.heap.size + 1, 2, none⟩ (.int .i64 g) = WF at E EO EB ⊢
    obtain ⟨k0, k1, k2⟩ := E.out
    refine bodyPost_ret (v := .tuple #[.agg #[.int .i64 n, .slice a2 l.length c2, .int .i64 g], .int .i64 (-1), .bool false]) ?hr rfl ?_
    case hr => rw [results_ctt rfl]; go_simp
    rw [HF.out]
    exact ⟨_, rfl, EO.out, EB.out⟩
  have hd1 : decide (999 < n) = false := decide_eq_false k1
  by_cases k2 : 12 ≤ l.length
  case pos =>
    have HF := Lib.hid (lsend_no (s := (n, l, g)) (t := t) (z := z) (.inr (.inl k2)))
    have hd2 : decide (12 ≤ (l.length : Int)) = true := decide_eq_true (by omega)
    have hd3 : decide (12 ≤ l.length) = true := decide_eq_true k2
    go_enter Try.func41, Try.ntmps41
    go_wp2_with fail
    refine (CP.out _ B1.out).mono ?_
    rintro e w2 ⟨v2, rfl, ho, hb, hnn⟩
    obtain ⟨a2, c2, rfl⟩ := OwnPk.shape ho
    have HB := Lib.hid (B1.out.trans (hb.mono B1.out.size))
    have Z2 := Lib.hid (Z.out.below hb)
    have ZF2 := Lib.hid (ZF.out.below hb Z.out.lt)
    have hw : ∀ q, q = w.heap.size + 1 → (Value.slice a2 l.length c2).ownBlock ≠ some q := fun q h e => by have := (World.ownsRow.lt ho q e).1; have := HZ1.out; omega
    have E := Lib.hid (((Z2.out.set0 (.int .i64 n)).set1 (.slice a2 l.length c2)).set2 (.int .i64 g))
    have ho' := OwnPk.lower ho B1.out.size
    have EO := Lib.hid (((ho'.far (i := 0) (u := .int .i64 n) (hw _ rfl)).far (i := 1) (u := .slice a2 l.length c2) (hw _ rfl)).far (i := 2) (u := .int .i64 g) (hw _ rfl))
    have EB := Lib.hid (((HB.out.setCell (p := ⟨w.heap.size + 1, 0, none⟩) (Nat.le_succ _) (.int .i64 n)).setCell (p := ⟨w.heap.size + 1, 1, none⟩) (Nat.le_succ _) (.slice a2 l.length c2)).setCell (p := ⟨w.heap.size + 1, 2, none⟩) (Nat.le_succ _) (.int .i64 g))
    clear ho ho' hb hnn hw x0 x1 x2
    obtain ⟨z0, z1, z2⟩ := Z2.out
    have f0 := ZF2.out 0
    have f1 := ZF2.out 1
    have f2 := ZF2.out 2
    go_wp2_with fail
    generalize ((w2.setCell ⟨w.heap.size + 1, 0, none⟩ (.int .i64 n)).setCell ⟨w.heap.size + 1, 1, none⟩ (.slice a2 l.length c2)).setCell ⟨w.heap.size + 1, 2, none⟩ (.int .i64 g) = WF at E EO EB ⊢
    obtain ⟨k0, k1, k2⟩ := E.out
    refine bodyPost_ret (v := .tuple #[.agg #[.int .i64 n, .slice a2 l.length c2, .int .i64 g], .int .i64 (-1), .bool false]) ?hr rfl ?_
    case hr => rw [results_ctt rfl]; go_simp
    rw [HF.out]
    exact ⟨_, rfl, EO.out, EB.out⟩
  have hd2 : decide (12 ≤ (l.length : Int)) = false := decide_eq_false (by omega)
  have hd3 : decide (12 ≤ l.length) = false := decide_eq_false k2
  by_cases k3 : l.length = 0
  case pos =>
    have HF := Lib.hid (lsend_yes (s := (n, l, g)) (t := t) (z := z) (by unfold lfull; simp only; omega))
    have hd4 : decide (0 < (l.length : Int)) = false := decide_eq_false (by omega)
    have hd5 : decide (0 < l.length) = false := decide_eq_false (by omega)
    clear k3
    go_enter Try.func41, Try.ntmps41
    go_wp2_with fail
    refine (CP.out _ B1.out).mono ?_
    rintro e w2 ⟨v2, rfl, ho, hb, hnn⟩
    obtain ⟨a2, c2, rfl⟩ := OwnPk.shape ho
    have hs2 : w.heap.size + 1 + 1 ≤ w2.heap.size := by have := hb.size; have := HZ1.out; omega
    have U : Below w2.heap.size w2 ((w2.alloc (.cells #[.int .i64 n, .slice a2 l.length c2, .int .i64 g] 24)).alloc (.cells #[.int .i64 n, .int .i64 t, .int .i64 z] 57)) := ((Below.refl _ _).alloc (Nat.le_refl _) _).alloc (by simp) _
    have HB := Lib.hid ((B1.out.trans (hb.mono B1.out.size)).trans (U.mono (B1.out.trans (hb.mono B1.out.size)).size))
    have X2 := Lib.hid ((X.out.below hb).below U)
    have Z2 := Lib.hid ((Z.out.below hb).below U)
    have ZF2 := Lib.hid ((ZF.out.below hb Z.out.lt).below U (Z.out.below hb).lt)
    have Y2 := Lib.hid ((C3.new w2 (.int .i64 n) (.slice a2 l.length c2) (.int .i64 g) 24).alloc (.cells #[.int .i64 n, .int .i64 t, .int .i64 z] 57))
    have YF2 := Lib.hid ((Soft.new w2 #[.int .i64 n, .slice a2 l.length c2, .int .i64 g] 24).below ((Below.refl _ _).alloc (Nat.le_refl _) (.cells #[.int .i64 n, .int .i64 t, .int .i64 z] 57)) (by simp))
    obtain ⟨xx0, xx1, xx2⟩ := (X.out.below hb).alloc (.cells #[.int .i64 n, .slice a2 l.length c2, .int .i64 g] 24)
    obtain ⟨yy0, yy1, yy2⟩ := C3.new w2 (.int .i64 n) (.slice a2 l.length c2) (.int .i64 g) 24
    have O2 := Lib.hid ((OwnPk.lower ho B1.out.size).below U)
    have hq2 : ∀ q, (Value.slice a2 l.length c2).ownBlock = some q → w.heap.size + 1 < q ∧ q < w2.heap.size := fun q hq => by have := World.ownsRow.lt ho q hq; have := HZ1.out; omega
    have HQ2 := Lib.hid hq2
    have es : (w2.alloc (.cells #[.int .i64 n, .slice a2 l.length c2, .int .i64 g] 24)).heap.size = w2.heap.size + 1 := by simp
    have S2 : Hid (SrcP ((w2.alloc (.cells #[.int .i64 n, .slice a2 l.length c2, .int .i64 g] 24)).alloc (.cells #[.int .i64 n, .int .i64 t, .int .i64 z] 57)) (.slice (some ⟨w2.heap.size + 1, 0, none⟩) 1 1) [(n, t, z)]) := Lib.hid (by rw [← es]; exact SrcP.new _ (n, t, z) _)
    have HS2 := Lib.hid hs2
    have hzz : Hid (((w2.alloc (.cells #[.int .i64 n, .slice a2 l.length c2, .int .i64 g] 24)).alloc (.cells #[.int .i64 n, .int .i64 t, .int .i64 z] 57)).heap.size = w2.heap.size + 1 + 1) := Lib.hid (by simp)
    clear ho hb hnn hq2 hs2 U es x0 x1 x2
    obtain ⟨x0, x1, x2⟩ := X2.out
    obtain ⟨y0, y1, y2⟩ := Y2.out
    go_wp2_with (at_builtin; refine wpList_app_pk _ rfl _ _ rfl w.heap.size _ l [(n, t, z)] rfl O2.out _ rfl S2.out ?c1 ?c2 ?_)
    case c1 => simp; omega
    case c2 => have := hzz.out; have := HS2.out; omega
    intro aa nn cc w3 hO hnn hg hgg hnil
    have hnn' : nn = l.length + 1 := by have := hnn.out; simpa using this
    subst hnn'
    have hrow : ∀ q, (Value.slice a2 l.length c2).ownBlock = some q → q ≠ w.heap.size ∧ q ≠ w.heap.size + 1 ∧ q ≠ w2.heap.size ∧ w.heap.size ≤ q := fun q hq => by have := HQ2.out q hq; omega
    have hown : ∀ q, (Value.slice aa (l.length + 1) cc).ownBlock = some q → q ≠ w.heap.size + 1 ∧ q ≠ w2.heap.size := fun q hq => by
      rcases hgg with h | h
      · rw [h] at hq; have := HQ2.out q hq; omega
      · rw [h] at hq; have := Option.some.inj hq; have := hzz.out; have := HS2.out; omega
    have X3 := Lib.hid (X2.out.kept hg (fun e => by have := hrow _ e.symm; omega))
    have Z3 := Lib.hid (Z2.out.kept hg (fun e => by have := hrow _ e.symm; omega))
    have ZF3 := Lib.hid (ZF2.out.kept hg Z2.out.lt (fun e => by have := hrow _ e.symm; omega))
    have Y3 := Lib.hid (Y2.out.kept hg (fun e => by have := hrow _ e.symm; omega))
    have YF3 := Lib.hid (YF2.out.kept hg Y2.out.lt (fun e => by have := hrow _ e.symm; omega))
    have B3 := Lib.hid (HB.out.grown hg HB.out.size (fun q hq => (hrow q hq).2.2.2))
    have HO := Lib.hid (show OwnPk w3 w.heap.size (.slice aa (l.length + 1) cc) (l ++ [(n, t, z)]) from hO)
    have HW := Lib.hid hown
    clear xx0 xx1 xx2 yy0 yy1 yy2
    clear hO hnn hg hgg hnil hrow hown X2 Z2 ZF2 Y2 YF2 HB O2 S2 HQ2 hzz x0 x1 x2 y0 y1 y2
    obtain ⟨x0, x1, x2⟩ := X3.out
    obtain ⟨y0, y1, y2⟩ := Y3.out
    have yf0 := YF3.out 0
    have yf1 := YF3.out 1
    have hd1 : ¬ w2.heap.size = w.heap.size := by have := HS2.out; omega
    have hd2 : ¬ w.heap.size = w2.heap.size := by have := HS2.out; omega
    have hd3 : ¬ w2.heap.size = w.heap.size + 1 := by have := HS2.out; omega
    have X4 := Lib.hid ((X3.out.far (c := w2.heap.size) (i := 1) (x := .slice aa (l.length + 1) cc) hd1).far (c := w2.heap.size) (i := 0) (x := .int .i64 (n + 1)) hd1)
    have Y4 := Lib.hid ((Y3.out.set1 (.slice aa (l.length + 1) cc)).set0 (.int .i64 (n + 1)))
    have Z4 := Lib.hid ((Z3.out.far (c := w2.heap.size) (i := 1) (x := .slice aa (l.length + 1) cc) hd3).far (c := w2.heap.size) (i := 0) (x := .int .i64 (n + 1)) hd3)
    have ZF4 := Lib.hid ((ZF3.out.set ⟨w2.heap.size, 1, none⟩ (.slice aa (l.length + 1) cc)).set ⟨w2.heap.size, 0, none⟩ (.int .i64 (n + 1)))
    have B4 := Lib.hid ((B3.out.setCell (p := ⟨w2.heap.size, 1, none⟩) (by show w.heap.size ≤ w2.heap.size; have := HS2.out; omega) (.slice aa (l.length + 1) cc)).setCell (p := ⟨w2.heap.size, 0, none⟩) (by show w.heap.size ≤ w2.heap.size; have := HS2.out; omega) (.int .i64 (n + 1)))
    have O4 := Lib.hid ((HO.out.far (b := w2.heap.size) (i := 1) (u := .slice aa (l.length + 1) cc) (fun e => (HW.out _ e).2 rfl)).far (b := w2.heap.size) (i := 0) (u := .int .i64 (n + 1)) (fun e => (HW.out _ e).2 rfl))
    have hwn : IntKind.i64.wrap (n + 1) = n + 1 := IntWalk.i64_in _ (by omega)
    go_upto_region 7 with fail
    generalize (w3.setCell ⟨w2.heap.size, 1, none⟩ (.slice aa (l.length + 1) cc)).setCell ⟨w2.heap.size, 0, none⟩ (.int .i64 (n + 1)) = W4 at X4 Y4 Z4 ZF4 B4 O4 ⊢
    clear X3 Y3 Z3 ZF3 YF3 B3 HO x0 x1 x2 y0 y1 y2 yf0 yf1
    obtain ⟨x0, x1, x2⟩ := X4.out
    obtain ⟨y0, y1, y2⟩ := Y4.out
    obtain ⟨z0, z1, z2⟩ := Z4.out
    have f0 := ZF4.out 0
    have f1 := ZF4.out 1
    have f2 := ZF4.out 2
    have hw : ∀ q, q = w.heap.size + 1 → (Value.slice aa (l.length + 1) cc).ownBlock ≠ some q := fun q h e => by have := (HW.out q e).1; omega
    have E := Lib.hid (((Z4.out.set0 (.int .i64 (n + 1))).set1 (.slice aa (l.length + 1) cc)).set2 (.int .i64 g))
    have EO := Lib.hid (((O4.out.far (i := 0) (u := .int .i64 (n + 1)) (hw _ rfl)).far (i := 1) (u := .slice aa (l.length + 1) cc) (hw _ rfl)).far (i := 2) (u := .int .i64 g) (hw _ rfl))
    have EB := Lib.hid (((B4.out.setCell (p := ⟨w.heap.size + 1, 0, none⟩) (Nat.le_succ _) (.int .i64 (n + 1))).setCell (p := ⟨w.heap.size + 1, 1, none⟩) (Nat.le_succ _) (.slice aa (l.length + 1) cc)).setCell (p := ⟨w.heap.size + 1, 2, none⟩) (Nat.le_succ _) (.int .i64 g))
    clear hw
    go_region
    generalize ((W4.setCell ⟨w.heap.size + 1, 0, none⟩ (.int .i64 (n + 1))).setCell ⟨w.heap.size + 1, 1, none⟩ (.slice aa (l.length + 1) cc)).setCell ⟨w.heap.size + 1, 2, none⟩ (.int .i64 g) = WG at E EO EB ⊢
    have Ud : Below WG.heap.size WG WG.drew := (Below.refl _ _).drew
    have E := Lib.hid (E.out.below Ud)
    have EO := Lib.hid (EO.out.below Ud)
    have EB := Lib.hid (EB.out.trans (Ud.mono EB.out.size))
    clear Ud
    generalize WG.drew = WF at E EO EB ⊢
    go_wp2_with fail
    obtain ⟨k0, k1, k2⟩ := E.out
    refine bodyPost_ret (v := .tuple #[.agg #[.int .i64 (n + 1), .slice aa (l.length + 1) cc, .int .i64 g], .int .i64 n, .bool true]) ?hr rfl ?_
    case hr => rw [results_ctt rfl]; go_simp
    rw [HF.out]
    exact ⟨_, rfl, EO.out, EB.out⟩
  obtain ⟨k, hk⟩ : ∃ k, l.length = k + 1 := ⟨l.length - 1, by omega⟩
  obtain ⟨gb, ob, rfl, hc⟩ := HC.out (by rintro rfl; simp at k3)
  have LP := Lib.hid (last_pk hc k hk)
  have hgl : gb < w.heap.size := (hc 0 (by omega)).lt
  have LP1 := Lib.hid ((B1.out.cell (p := ⟨gb, ob + k * 3 + 1, none⟩) hgl).trans LP.out)
  obtain ⟨tm, htm⟩ : ∃ tm, (l.getD k pkD).2.1 = tm := ⟨_, rfl⟩
  rw [htm] at LP1
  have hd4 : decide (0 < (l.length : Int)) = true := decide_eq_true (by omega)
  have hd5 : decide (0 < l.length) = true := decide_eq_true (by omega)
  have hl1 : (l.length : Int) - 1 = (k : Int) := by omega
  have hl2 : IntKind.i64.wrap ((l.length : Int) - 1) = (k : Int) := by rw [hl1]; exact IntWalk.i64_in _ (by omega)
  have hkl : (k : Int) < (l.length : Int) := by omega
  have HK := Lib.hid hk
  clear hc LP hk hl1 k3
  have lp := LP1.out
  by_cases k4 : t < tm
  case pos =>
    have HF := Lib.hid (lsend_no (s := (n, l, g)) (t := t) (z := z) (.inr (.inr ⟨by show 0 < l.length; have := HK.out; omega, by show t < (l.getD (l.length - 1) pkD).2.1; rw [show l.length - 1 = k by have := HK.out; omega, htm]; exact k4⟩)))
    have hd6 : decide (t < tm) = true := decide_eq_true k4
    clear htm
    go_enter Try.func41, Try.ntmps41
    go_wp2_with fail
    refine (CP.out _ B1.out).mono ?_
    rintro e w2 ⟨v2, rfl, ho, hb, hnn⟩
    obtain ⟨a2, c2, rfl⟩ := OwnPk.shape ho
    have HB := Lib.hid (B1.out.trans (hb.mono B1.out.size))
    have Z2 := Lib.hid (Z.out.below hb)
    have ZF2 := Lib.hid (ZF.out.below hb Z.out.lt)
    have hw : ∀ q, q = w.heap.size + 1 → (Value.slice a2 l.length c2).ownBlock ≠ some q := fun q h e => by have := (World.ownsRow.lt ho q e).1; have := HZ1.out; omega
    have E := Lib.hid (((Z2.out.set0 (.int .i64 n)).set1 (.slice a2 l.length c2)).set2 (.int .i64 g))
    have ho' := OwnPk.lower ho B1.out.size
    have EO := Lib.hid (((ho'.far (i := 0) (u := .int .i64 n) (hw _ rfl)).far (i := 1) (u := .slice a2 l.length c2) (hw _ rfl)).far (i := 2) (u := .int .i64 g) (hw _ rfl))
    have EB := Lib.hid (((HB.out.setCell (p := ⟨w.heap.size + 1, 0, none⟩) (Nat.le_succ _) (.int .i64 n)).setCell (p := ⟨w.heap.size + 1, 1, none⟩) (Nat.le_succ _) (.slice a2 l.length c2)).setCell (p := ⟨w.heap.size + 1, 2, none⟩) (Nat.le_succ _) (.int .i64 g))
    clear ho ho' hb hnn hw x0 x1 x2
    obtain ⟨z0, z1, z2⟩ := Z2.out
    have f0 := ZF2.out 0
    have f1 := ZF2.out 1
    have f2 := ZF2.out 2
    go_wp2_with fail
    generalize ((w2.setCell ⟨w.heap.size + 1, 0, none⟩ (.int .i64 n)).setCell ⟨w.heap.size + 1, 1, none⟩ (.slice a2 l.length c2)).setCell ⟨w.heap.size + 1, 2, none⟩ (.int .i64 g) = WF at E EO EB ⊢
    obtain ⟨k0, k1, k2⟩ := E.out
    refine bodyPost_ret (v := .tuple #[.agg #[.int .i64 n, .slice a2 l.length c2, .int .i64 g], .int .i64 (-1), .bool false]) ?hr rfl ?_
    case hr => rw [results_ctt rfl]; go_simp
    rw [HF.out]
    exact ⟨_, rfl, EO.out, EB.out⟩
  have HF := Lib.hid (lsend_yes (s := (n, l, g)) (t := t) (z := z) (by unfold lfull; simp only; rw [show l.length - 1 = k by have := HK.out; omega, htm]; omega))
  have hd6 : decide (t < tm) = false := decide_eq_false k4
  clear htm
  go_enter Try.func41, Try.ntmps41
  go_wp2_with fail
  refine (CP.out _ B1.out).mono ?_
  rintro e w2 ⟨v2, rfl, ho, hb, hnn⟩
  obtain ⟨a2, c2, rfl⟩ := OwnPk.shape ho
  have hs2 : w.heap.size + 1 + 1 ≤ w2.heap.size := by have := hb.size; have := HZ1.out; omega
  have U : Below w2.heap.size w2 ((w2.alloc (.cells #[.int .i64 n, .slice a2 l.length c2, .int .i64 g] 24)).alloc (.cells #[.int .i64 n, .int .i64 t, .int .i64 z] 57)) := ((Below.refl _ _).alloc (Nat.le_refl _) _).alloc (by simp) _
  have HB := Lib.hid ((B1.out.trans (hb.mono B1.out.size)).trans (U.mono (B1.out.trans (hb.mono B1.out.size)).size))
  have X2 := Lib.hid ((X.out.below hb).below U)
  have Z2 := Lib.hid ((Z.out.below hb).below U)
  have ZF2 := Lib.hid ((ZF.out.below hb Z.out.lt).below U (Z.out.below hb).lt)
  have Y2 := Lib.hid ((C3.new w2 (.int .i64 n) (.slice a2 l.length c2) (.int .i64 g) 24).alloc (.cells #[.int .i64 n, .int .i64 t, .int .i64 z] 57))
  have YF2 := Lib.hid ((Soft.new w2 #[.int .i64 n, .slice a2 l.length c2, .int .i64 g] 24).below ((Below.refl _ _).alloc (Nat.le_refl _) (.cells #[.int .i64 n, .int .i64 t, .int .i64 z] 57)) (by simp))
  obtain ⟨xx0, xx1, xx2⟩ := (X.out.below hb).alloc (.cells #[.int .i64 n, .slice a2 l.length c2, .int .i64 g] 24)
  obtain ⟨yy0, yy1, yy2⟩ := C3.new w2 (.int .i64 n) (.slice a2 l.length c2) (.int .i64 g) 24
  have O2 := Lib.hid ((OwnPk.lower ho B1.out.size).below U)
  have hq2 : ∀ q, (Value.slice a2 l.length c2).ownBlock = some q → w.heap.size + 1 < q ∧ q < w2.heap.size := fun q hq => by have := World.ownsRow.lt ho q hq; have := HZ1.out; omega
  have HQ2 := Lib.hid hq2
  have es : (w2.alloc (.cells #[.int .i64 n, .slice a2 l.length c2, .int .i64 g] 24)).heap.size = w2.heap.size + 1 := by simp
  have S2 : Hid (SrcP ((w2.alloc (.cells #[.int .i64 n, .slice a2 l.length c2, .int .i64 g] 24)).alloc (.cells #[.int .i64 n, .int .i64 t, .int .i64 z] 57)) (.slice (some ⟨w2.heap.size + 1, 0, none⟩) 1 1) [(n, t, z)]) := Lib.hid (by rw [← es]; exact SrcP.new _ (n, t, z) _)
  have HS2 := Lib.hid hs2
  have hzz : Hid (((w2.alloc (.cells #[.int .i64 n, .slice a2 l.length c2, .int .i64 g] 24)).alloc (.cells #[.int .i64 n, .int .i64 t, .int .i64 z] 57)).heap.size = w2.heap.size + 1 + 1) := Lib.hid (by simp)
  clear ho hb hnn hq2 hs2 U es x0 x1 x2
  obtain ⟨x0, x1, x2⟩ := X2.out
  obtain ⟨y0, y1, y2⟩ := Y2.out
  go_wp2_with (at_builtin; refine wpList_app_pk _ rfl _ _ rfl w.heap.size _ l [(n, t, z)] rfl O2.out _ rfl S2.out ?c1 ?c2 ?_)
  case c1 => simp; omega
  case c2 => have := hzz.out; have := HS2.out; omega
  intro aa nn cc w3 hO hnn hg hgg hnil
  have hnn' : nn = l.length + 1 := by have := hnn.out; simpa using this
  subst hnn'
  have hrow : ∀ q, (Value.slice a2 l.length c2).ownBlock = some q → q ≠ w.heap.size ∧ q ≠ w.heap.size + 1 ∧ q ≠ w2.heap.size ∧ w.heap.size ≤ q := fun q hq => by have := HQ2.out q hq; omega
  have hown : ∀ q, (Value.slice aa (l.length + 1) cc).ownBlock = some q → q ≠ w.heap.size + 1 ∧ q ≠ w2.heap.size := fun q hq => by
    rcases hgg with h | h
    · rw [h] at hq; have := HQ2.out q hq; omega
    · rw [h] at hq; have := Option.some.inj hq; have := hzz.out; have := HS2.out; omega
  have X3 := Lib.hid (X2.out.kept hg (fun e => by have := hrow _ e.symm; omega))
  have Z3 := Lib.hid (Z2.out.kept hg (fun e => by have := hrow _ e.symm; omega))
  have ZF3 := Lib.hid (ZF2.out.kept hg Z2.out.lt (fun e => by have := hrow _ e.symm; omega))
  have Y3 := Lib.hid (Y2.out.kept hg (fun e => by have := hrow _ e.symm; omega))
  have YF3 := Lib.hid (YF2.out.kept hg Y2.out.lt (fun e => by have := hrow _ e.symm; omega))
  have B3 := Lib.hid (HB.out.grown hg HB.out.size (fun q hq => (hrow q hq).2.2.2))
  have HO := Lib.hid (show OwnPk w3 w.heap.size (.slice aa (l.length + 1) cc) (l ++ [(n, t, z)]) from hO)
  have HW := Lib.hid hown
  clear xx0 xx1 xx2 yy0 yy1 yy2
  clear hO hnn hg hgg hnil hrow hown X2 Z2 ZF2 Y2 YF2 HB O2 S2 HQ2 hzz x0 x1 x2 y0 y1 y2
  obtain ⟨x0, x1, x2⟩ := X3.out
  obtain ⟨y0, y1, y2⟩ := Y3.out
  have yf0 := YF3.out 0
  have yf1 := YF3.out 1
  have hd1 : ¬ w2.heap.size = w.heap.size := by have := HS2.out; omega
  have hd2 : ¬ w.heap.size = w2.heap.size := by have := HS2.out; omega
  have hd3 : ¬ w2.heap.size = w.heap.size + 1 := by have := HS2.out; omega
  have X4 := Lib.hid ((X3.out.far (c := w2.heap.size) (i := 1) (x := .slice aa (l.length + 1) cc) hd1).far (c := w2.heap.size) (i := 0) (x := .int .i64 (n + 1)) hd1)
  have Y4 := Lib.hid ((Y3.out.set1 (.slice aa (l.length + 1) cc)).set0 (.int .i64 (n + 1)))
  have Z4 := Lib.hid ((Z3.out.far (c := w2.heap.size) (i := 1) (x := .slice aa (l.length + 1) cc) hd3).far (c := w2.heap.size) (i := 0) (x := .int .i64 (n + 1)) hd3)
  have ZF4 := Lib.hid ((ZF3.out.set ⟨w2.heap.size, 1, none⟩ (.slice aa (l.length + 1) cc)).set ⟨w2.heap.size, 0, none⟩ (.int .i64 (n + 1)))
  have B4 := Lib.hid ((B3.out.setCell (p := ⟨w2.heap.size, 1, none⟩) (by show w.heap.size ≤ w2.heap.size; have := HS2.out; omega) (.slice aa (l.length + 1) cc)).setCell (p := ⟨w2.heap.size, 0, none⟩) (by show w.heap.size ≤ w2.heap.size; have := HS2.out; omega) (.int .i64 (n + 1)))
  have O4 := Lib.hid ((HO.out.far (b := w2.heap.size) (i := 1) (u := .slice aa (l.length + 1) cc) (fun e => (HW.out _ e).2 rfl)).far (b := w2.heap.size) (i := 0) (u := .int .i64 (n + 1)) (fun e => (HW.out _ e).2 rfl))
  have hwn : IntKind.i64.wrap (n + 1) = n + 1 := IntWalk.i64_in _ (by omega)
  go_upto_region 7 with fail
  generalize (w3.setCell ⟨w2.heap.size, 1, none⟩ (.slice aa (l.length + 1) cc)).setCell ⟨w2.heap.size, 0, none⟩ (.int .i64 (n + 1)) = W4 at X4 Y4 Z4 ZF4 B4 O4 ⊢
  clear X3 Y3 Z3 ZF3 YF3 B3 HO x0 x1 x2 y0 y1 y2 yf0 yf1
  obtain ⟨x0, x1, x2⟩ := X4.out
  obtain ⟨y0, y1, y2⟩ := Y4.out
  obtain ⟨z0, z1, z2⟩ := Z4.out
  have f0 := ZF4.out 0
  have f1 := ZF4.out 1
  have f2 := ZF4.out 2
  have hw : ∀ q, q = w.heap.size + 1 → (Value.slice aa (l.length + 1) cc).ownBlock ≠ some q := fun q h e => by have := (HW.out q e).1; omega
  have E := Lib.hid (((Z4.out.set0 (.int .i64 (n + 1))).set1 (.slice aa (l.length + 1) cc)).set2 (.int .i64 g))
  have EO := Lib.hid (((O4.out.far (i := 0) (u := .int .i64 (n + 1)) (hw _ rfl)).far (i := 1) (u := .slice aa (l.length + 1) cc) (hw _ rfl)).far (i := 2) (u := .int .i64 g) (hw _ rfl))
  have EB := Lib.hid (((B4.out.setCell (p := ⟨w.heap.size + 1, 0, none⟩) (Nat.le_succ _) (.int .i64 (n + 1))).setCell (p := ⟨w.heap.size + 1, 1, none⟩) (Nat.le_succ _) (.slice aa (l.length + 1) cc)).setCell (p := ⟨w.heap.size + 1, 2, none⟩) (Nat.le_succ _) (.int .i64 g))
  clear hw
  go_region
  generalize ((W4.setCell ⟨w.heap.size + 1, 0, none⟩ (.int .i64 (n + 1))).setCell ⟨w.heap.size + 1, 1, none⟩ (.slice aa (l.length + 1) cc)).setCell ⟨w.heap.size + 1, 2, none⟩ (.int .i64 g) = WG at E EO EB ⊢
  have Ud : Below WG.heap.size WG WG.drew := (Below.refl _ _).drew
  have E := Lib.hid (E.out.below Ud)
  have EO := Lib.hid (EO.out.below Ud)
  have EB := Lib.hid (EB.out.trans (Ud.mono EB.out.size))
  clear Ud
  generalize WG.drew = WF at E EO EB ⊢
  go_wp2_with fail
  obtain ⟨k0, k1, k2⟩ := E.out
  refine bodyPost_ret (v := .tuple #[.agg #[.int .i64 (n + 1), .slice aa (l.length + 1) cc, .int .i64 g], .int .i64 n, .bool true]) ?hr rfl ?_
  case hr => rw [results_ctt rfl]; go_simp
  rw [HF.out]
  exact ⟨_, rfl, EO.out, EB.out⟩

end Go.Proofs.Ytccolpaenmebeaa
