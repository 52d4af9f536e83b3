/- The program's FrameDecode. -/
import Derived.Test.YthflokonihegbaaIRb
import Derived.Test.YthflokonihegbaaSFd
namespace Go.Proofs.Ythflokonihegbaa
open Go.RowKit
set_option linter.unusedVariables false
set_option linter.unusedSimpArgs false

theorem rL_len : ∀ (m : Nat) (z : Int) (st : St), (rL m z st).1.length = m
  | 0, _, _ => rfl
  | m + 1, z, st => by rw [rL_step]; simp only [List.length_cons]; rw [rL_len m]
theorem rR_len (st : St) : (rR st).1.length ≤ 16 := by
  unfold rR
  split
  · simp
  · rw [rL_len]; omega
theorem pbody_len (k : Int) (st : St) : (pbody k st).1.rs.length ≤ 16 := by
  unfold pbody
  split
  · exact rR_len _
  · repeat' split
    all_goals simp
theorem frm_far {w w' : World} {b : Nat} {vs : List Value} {row : Option Nat} (h : Frm w b vs) (ht : Thaw w b) (hlt : b < w.heap.size) (hg : w.grownBy w' row) (hne : some b ≠ row) : Frm w' b vs ∧ Thaw w' b :=
  ⟨fun i => (World.grownBy.cell_far hg ⟨b, i, none⟩ hlt hne).trans (h i), fun i => (World.grownBy.frozen_far hg ⟨b, i, none⟩ hlt hne).trans (ht i)⟩
theorem RC_lt {w' : World} {b : Nat} {v : Value} {vs : List Value} (h : Frm w' b (v :: vs)) : b < w'.heap.size := World.block_lt_of_cell? w' _ (h 0)
/-- What FrameDecode has made before it reads. -/
theorem fd_start (s : ByteArray) (w : World) : Hid (Frm ((w.alloc (.cells #[.int .i64 0, .int .i64 0, .int .i64 0, .int .i64 0, .string ⟨#[]⟩, .slice none 0 0] 25)).alloc (.cells #[.string s, .bool false] 59)) w.heap.size [.int .i64 0, .int .i64 0, .int .i64 0, .int .i64 0, .string ⟨#[]⟩, .slice none 0 0] ∧ Thaw ((w.alloc (.cells #[.int .i64 0, .int .i64 0, .int .i64 0, .int .i64 0, .string ⟨#[]⟩, .slice none 0 0] 25)).alloc (.cells #[.string s, .bool false] 59)) w.heap.size ∧ Rdf ((w.alloc (.cells #[.int .i64 0, .int .i64 0, .int .i64 0, .int .i64 0, .string ⟨#[]⟩, .slice none 0 0] 25)).alloc (.cells #[.string s, .bool false] 59)) (w.heap.size + 1) (s, false) ∧ Below w.heap.size w ((w.alloc (.cells #[.int .i64 0, .int .i64 0, .int .i64 0, .int .i64 0, .string ⟨#[]⟩, .slice none 0 0] 25)).alloc (.cells #[.string s, .bool false] 59)) ∧ ((w.alloc (.cells #[.int .i64 0, .int .i64 0, .int .i64 0, .int .i64 0, .string ⟨#[]⟩, .slice none 0 0] 25)).alloc (.cells #[.string s, .bool false] 59)).heap.size = w.heap.size + 2) := by
  have hsz : (w.alloc (.cells #[.int .i64 0, .int .i64 0, .int .i64 0, .int .i64 0, .string ⟨#[]⟩, .slice none 0 0] 25)).heap.size = w.heap.size + 1 := by simp
  have hb : Below (w.alloc (.cells #[.int .i64 0, .int .i64 0, .int .i64 0, .int .i64 0, .string ⟨#[]⟩, .slice none 0 0] 25)).heap.size (w.alloc (.cells #[.int .i64 0, .int .i64 0, .int .i64 0, .int .i64 0, .string ⟨#[]⟩, .slice none 0 0] 25)) ((w.alloc (.cells #[.int .i64 0, .int .i64 0, .int .i64 0, .int .i64 0, .string ⟨#[]⟩, .slice none 0 0] 25)).alloc (.cells #[.string s, .bool false] 59)) := (Below.refl _ _).alloc (Nat.le_refl _) _
  have h1 := Frm.new w 25 [.int .i64 0, .int .i64 0, .int .i64 0, .int .i64 0, .string ⟨#[]⟩, .slice none 0 0]
  have h2 := Thaw.new w 25 [.int .i64 0, .int .i64 0, .int .i64 0, .int .i64 0, .string ⟨#[]⟩, .slice none 0 0]
  have h3 := Frm.new (w.alloc (.cells #[.int .i64 0, .int .i64 0, .int .i64 0, .int .i64 0, .string ⟨#[]⟩, .slice none 0 0] 25)) 59 [.string s, .bool false]
  have h4 := Thaw.new (w.alloc (.cells #[.int .i64 0, .int .i64 0, .int .i64 0, .int .i64 0, .string ⟨#[]⟩, .slice none 0 0] 25)) 59 [.string s, .bool false]
  rw [hsz] at h3 h4
  exact Lib.hid ⟨h1.below hb (by omega), h2.below hb (by omega), ⟨h3, h4⟩, ((Below.refl _ _).alloc (Nat.le_refl _) _).trans (hb.mono (by omega)), by simp⟩

set_option maxRecDepth 100000 in
set_option maxHeartbeats 2000000 in
theorem fd_no (s : ByteArray) (w : World) (hs : s.size ≤ 4194304) (f : Fr) (st' : St) (HPD : Hid (pd s = (f, st'))) (HK : Hid (¬ (0 ≤ f.k ∧ f.k ≤ 10))) (HN : Hid (dec4 s = none)) : Calls Try.prog 18 #[.string s] w (FdPost w (dec4 s)) := by
  have HST := fd_start s w
  have HBD := Lib.hid (fun W h => body_any (w.heap.size + 1) (s, false) W h hs)
  rw [show pbody (rI (s, false)).1 (rI (s, false)).2 = (f, st') from HPD.out] at HBD
  unfold BdPost at HBD
  go_enter Try.func18, Try.ntmps18
  go_wp2_with fail
  generalize (w.alloc (.cells #[.int .i64 0, .int .i64 0, .int .i64 0, .int .i64 0, .string ⟨#[]⟩, .slice none 0 0] 25)).alloc (.cells #[.string s, .bool false] 59) = W0 at *
  obtain ⟨q1, q2, q3, q4, q5⟩ := HST.out
  refine (HBD.out _ q3).mono ?_
  rintro e w1 ⟨a, c, he, hO, hR, hg⟩
  subst he
  simp only at hO hR ⊢
  obtain ⟨f1, f2⟩ := frm_far q1 q2 (by omega) hg (by simp)
  have RC := Lib.hid f1
  have RT := Lib.hid f2
  have HB1 : Hid (Below w.heap.size w w1) := Lib.hid (q4.grown hg q4.size (fun k hk => by injection hk with hk; omega))
  have HR1 := Lib.hid hR
  have HO1 := Lib.hid (OwnRg.lower hO (B' := w.heap.size) (by omega))
  rw [bodyR_no HK.out]
  clear q1 q2 q3 q4 q5 f1 f2 hO hR hg
  obtain ⟨r0, r1, r2, r3, r4, r5⟩ : w1.cell? ⟨w.heap.size, 0, none⟩ = some (.int .i64 0) ∧ w1.cell? ⟨w.heap.size, 1, none⟩ = some (.int .i64 0) ∧ w1.cell? ⟨w.heap.size, 2, none⟩ = some (.int .i64 0) ∧ w1.cell? ⟨w.heap.size, 3, none⟩ = some (.int .i64 0) ∧ w1.cell? ⟨w.heap.size, 4, none⟩ = some (.string ⟨#[]⟩) ∧ w1.cell? ⟨w.heap.size, 5, none⟩ = some (.slice none 0 0) := ⟨RC.out 0, RC.out 1, RC.out 2, RC.out 3, RC.out 4, RC.out 5⟩
  obtain ⟨t0, t1, t2, t3, t4, t5⟩ : w1.frozen? ⟨w.heap.size, 0, none⟩ = false ∧ w1.frozen? ⟨w.heap.size, 1, none⟩ = false ∧ w1.frozen? ⟨w.heap.size, 2, none⟩ = false ∧ w1.frozen? ⟨w.heap.size, 3, none⟩ = false ∧ w1.frozen? ⟨w.heap.size, 4, none⟩ = false ∧ w1.frozen? ⟨w.heap.size, 5, none⟩ = false := ⟨RT.out 0, RT.out 1, RT.out 2, RT.out 3, RT.out 4, RT.out 5⟩
  have RC6 : Hid (Frm ((((((w1.setCell ⟨w.heap.size, 0, none⟩ (.int .i64 0)).setCell ⟨w.heap.size, 1, none⟩ (.int .i64 0)).setCell ⟨w.heap.size, 2, none⟩ (.int .i64 0)).setCell ⟨w.heap.size, 3, none⟩ (.int .i64 0)).setCell ⟨w.heap.size, 4, none⟩ (.string ⟨#[]⟩)).setCell ⟨w.heap.size, 5, none⟩ (.slice none 0 0)) w.heap.size [.int .i64 0, .int .i64 0, .int .i64 0, .int .i64 0, .string ⟨#[]⟩, .slice none 0 0]) := Lib.hid ((((((RC.out.set (i := 0) (by simp) (.int .i64 0)).set (i := 1) (by simp) (.int .i64 0)).set (i := 2) (by simp) (.int .i64 0)).set (i := 3) (by simp) (.int .i64 0)).set (i := 4) (by simp) (.string ⟨#[]⟩)).set (i := 5) (by simp) (.slice none 0 0))
  have B6 : Hid (Below w.heap.size w ((((((w1.setCell ⟨w.heap.size, 0, none⟩ (.int .i64 0)).setCell ⟨w.heap.size, 1, none⟩ (.int .i64 0)).setCell ⟨w.heap.size, 2, none⟩ (.int .i64 0)).setCell ⟨w.heap.size, 3, none⟩ (.int .i64 0)).setCell ⟨w.heap.size, 4, none⟩ (.string ⟨#[]⟩)).setCell ⟨w.heap.size, 5, none⟩ (.slice none 0 0))) := Lib.hid (Below.setCell (Below.setCell (Below.setCell (Below.setCell (Below.setCell (Below.setCell HB1.out (Nat.le_refl _) _) (Nat.le_refl _) _) (Nat.le_refl _) _) (Nat.le_refl _) _) (Nat.le_refl _) _) (Nat.le_refl _) _)
  go_wp2_with fail
  generalize ((((((w1.setCell ⟨w.heap.size, 0, none⟩ (.int .i64 0)).setCell ⟨w.heap.size, 1, none⟩ (.int .i64 0)).setCell ⟨w.heap.size, 2, none⟩ (.int .i64 0)).setCell ⟨w.heap.size, 3, none⟩ (.int .i64 0)).setCell ⟨w.heap.size, 4, none⟩ (.string ⟨#[]⟩)).setCell ⟨w.heap.size, 5, none⟩ (.slice none 0 0)) = W6 at *
  obtain ⟨s0, s1, s2, s3, s4, s5⟩ : W6.cell? ⟨w.heap.size, 0, none⟩ = some (.int .i64 0) ∧ W6.cell? ⟨w.heap.size, 1, none⟩ = some (.int .i64 0) ∧ W6.cell? ⟨w.heap.size, 2, none⟩ = some (.int .i64 0) ∧ W6.cell? ⟨w.heap.size, 3, none⟩ = some (.int .i64 0) ∧ W6.cell? ⟨w.heap.size, 4, none⟩ = some (.string ⟨#[]⟩) ∧ W6.cell? ⟨w.heap.size, 5, none⟩ = some (.slice none 0 0) := ⟨RC6.out 0, RC6.out 1, RC6.out 2, RC6.out 3, RC6.out 4, RC6.out 5⟩
  refine bodyPost_ret (v := .tuple #[frV ⟨0, 0, 0, 0, ⟨#[]⟩, []⟩ (.slice none 0 0), .int .i64 0, .bool false]) ?hr rfl ?_
  case hr => rw [results_cell_tmp2 rfl]; unfold frV; go_simp
  exact .inl ⟨HN.out, none, 0, rfl, B6.out, own_nil _ _ B6.out.size⟩
set_option maxRecDepth 100000 in
set_option maxHeartbeats 2000000 in
theorem fd_bad (s : ByteArray) (w : World) (hs : s.size ≤ 4194304) (f : Fr) (st' : St) (HPD : Hid (pd s = (f, st'))) (HK : Hid (0 ≤ f.k ∧ f.k ≤ 10)) (HF : Hid (st'.2 = true)) (HN : Hid (dec4 s = none)) : Calls Try.prog 18 #[.string s] w (FdPost w (dec4 s)) := by
  have HST := fd_start s w
  have HBD := Lib.hid (fun W h => body_any (w.heap.size + 1) (s, false) W h hs)
  rw [show pbody (rI (s, false)).1 (rI (s, false)).2 = (f, st') from HPD.out] at HBD
  unfold BdPost at HBD
  go_enter Try.func18, Try.ntmps18
  go_wp2_with fail
  generalize (w.alloc (.cells #[.int .i64 0, .int .i64 0, .int .i64 0, .int .i64 0, .string ⟨#[]⟩, .slice none 0 0] 25)).alloc (.cells #[.string s, .bool false] 59) = W0 at *
  obtain ⟨q1, q2, q3, q4, q5⟩ := HST.out
  refine (HBD.out _ q3).mono ?_
  rintro e w1 ⟨a, c, he, hO, hR, hg⟩
  subst he
  simp only at hO hR ⊢
  obtain ⟨f1, f2⟩ := frm_far q1 q2 (by omega) hg (by simp)
  have RC := Lib.hid f1
  have RT := Lib.hid f2
  have HB1 : Hid (Below w.heap.size w w1) := Lib.hid (q4.grown hg q4.size (fun k hk => by injection hk with hk; omega))
  have HR1 := Lib.hid hR
  have HO1 := Lib.hid (OwnRg.lower hO (B' := w.heap.size) (by omega))
  rw [bodyR_yes HK.out]
  unfold bodyV
  have d1 : w1.cell? ⟨w.heap.size + 1, 1, none⟩ = some (.bool true) := by have := hR.1 1; rw [HF.out] at this; exact this
  generalize bodyX f.k f.a f.b f.c f.d (.slice a f.rs.length c) = x at *
  generalize bodyT f.k = T at *
  clear q1 q2 q3 q4 q5 f1 f2 hO hR hg
  obtain ⟨r0, r1, r2, r3, r4, r5⟩ : w1.cell? ⟨w.heap.size, 0, none⟩ = some (.int .i64 0) ∧ w1.cell? ⟨w.heap.size, 1, none⟩ = some (.int .i64 0) ∧ w1.cell? ⟨w.heap.size, 2, none⟩ = some (.int .i64 0) ∧ w1.cell? ⟨w.heap.size, 3, none⟩ = some (.int .i64 0) ∧ w1.cell? ⟨w.heap.size, 4, none⟩ = some (.string ⟨#[]⟩) ∧ w1.cell? ⟨w.heap.size, 5, none⟩ = some (.slice none 0 0) := ⟨RC.out 0, RC.out 1, RC.out 2, RC.out 3, RC.out 4, RC.out 5⟩
  obtain ⟨t0, t1, t2, t3, t4, t5⟩ : w1.frozen? ⟨w.heap.size, 0, none⟩ = false ∧ w1.frozen? ⟨w.heap.size, 1, none⟩ = false ∧ w1.frozen? ⟨w.heap.size, 2, none⟩ = false ∧ w1.frozen? ⟨w.heap.size, 3, none⟩ = false ∧ w1.frozen? ⟨w.heap.size, 4, none⟩ = false ∧ w1.frozen? ⟨w.heap.size, 5, none⟩ = false := ⟨RT.out 0, RT.out 1, RT.out 2, RT.out 3, RT.out 4, RT.out 5⟩
  have RC6 : Hid (Frm ((((((w1.setCell ⟨w.heap.size, 0, none⟩ (.int .i64 0)).setCell ⟨w.heap.size, 1, none⟩ (.int .i64 0)).setCell ⟨w.heap.size, 2, none⟩ (.int .i64 0)).setCell ⟨w.heap.size, 3, none⟩ (.int .i64 0)).setCell ⟨w.heap.size, 4, none⟩ (.string ⟨#[]⟩)).setCell ⟨w.heap.size, 5, none⟩ (.slice none 0 0)) w.heap.size [.int .i64 0, .int .i64 0, .int .i64 0, .int .i64 0, .string ⟨#[]⟩, .slice none 0 0]) := Lib.hid ((((((RC.out.set (i := 0) (by simp) (.int .i64 0)).set (i := 1) (by simp) (.int .i64 0)).set (i := 2) (by simp) (.int .i64 0)).set (i := 3) (by simp) (.int .i64 0)).set (i := 4) (by simp) (.string ⟨#[]⟩)).set (i := 5) (by simp) (.slice none 0 0))
  have B6 : Hid (Below w.heap.size w ((((((w1.setCell ⟨w.heap.size, 0, none⟩ (.int .i64 0)).setCell ⟨w.heap.size, 1, none⟩ (.int .i64 0)).setCell ⟨w.heap.size, 2, none⟩ (.int .i64 0)).setCell ⟨w.heap.size, 3, none⟩ (.int .i64 0)).setCell ⟨w.heap.size, 4, none⟩ (.string ⟨#[]⟩)).setCell ⟨w.heap.size, 5, none⟩ (.slice none 0 0))) := Lib.hid (Below.setCell (Below.setCell (Below.setCell (Below.setCell (Below.setCell (Below.setCell HB1.out (Nat.le_refl _) _) (Nat.le_refl _) _) (Nat.le_refl _) _) (Nat.le_refl _) _) (Nat.le_refl _) _) (Nat.le_refl _) _)
  go_wp2_with fail
  generalize ((((((w1.setCell ⟨w.heap.size, 0, none⟩ (.int .i64 0)).setCell ⟨w.heap.size, 1, none⟩ (.int .i64 0)).setCell ⟨w.heap.size, 2, none⟩ (.int .i64 0)).setCell ⟨w.heap.size, 3, none⟩ (.int .i64 0)).setCell ⟨w.heap.size, 4, none⟩ (.string ⟨#[]⟩)).setCell ⟨w.heap.size, 5, none⟩ (.slice none 0 0)) = W6 at *
  obtain ⟨s0, s1, s2, s3, s4, s5⟩ : W6.cell? ⟨w.heap.size, 0, none⟩ = some (.int .i64 0) ∧ W6.cell? ⟨w.heap.size, 1, none⟩ = some (.int .i64 0) ∧ W6.cell? ⟨w.heap.size, 2, none⟩ = some (.int .i64 0) ∧ W6.cell? ⟨w.heap.size, 3, none⟩ = some (.int .i64 0) ∧ W6.cell? ⟨w.heap.size, 4, none⟩ = some (.string ⟨#[]⟩) ∧ W6.cell? ⟨w.heap.size, 5, none⟩ = some (.slice none 0 0) := ⟨RC6.out 0, RC6.out 1, RC6.out 2, RC6.out 3, RC6.out 4, RC6.out 5⟩
  refine bodyPost_ret (v := .tuple #[frV ⟨0, 0, 0, 0, ⟨#[]⟩, []⟩ (.slice none 0 0), .int .i64 0, .bool false]) ?hr rfl ?_
  case hr => rw [results_cell_tmp2 rfl]; unfold frV; go_simp
  exact .inl ⟨HN.out, none, 0, rfl, B6.out, own_nil _ _ B6.out.size⟩
set_option maxRecDepth 100000 in
set_option maxHeartbeats 2000000 in
theorem fd_out (s : ByteArray) (w : World) (hs : s.size ≤ 4194304) (f : Fr) (st' : St) (HPD : Hid (pd s = (f, st'))) (hl : f.rs.length ≤ 1048576) (HK : Hid (0 ≤ f.k ∧ f.k ≤ 10)) (HF : Hid (st'.2 = false)) (HQ : Hid (finr f = false)) (HN : Hid (dec4 s = none)) : Calls Try.prog 18 #[.string s] w (FdPost w (dec4 s)) := by
  have HST := fd_start s w
  have HBD := Lib.hid (fun W h => body_any (w.heap.size + 1) (s, false) W h hs)
  rw [show pbody (rI (s, false)).1 (rI (s, false)).2 = (f, st') from HPD.out] at HBD
  unfold BdPost at HBD
  go_enter Try.func18, Try.ntmps18
  go_wp2_with fail
  generalize (w.alloc (.cells #[.int .i64 0, .int .i64 0, .int .i64 0, .int .i64 0, .string ⟨#[]⟩, .slice none 0 0] 25)).alloc (.cells #[.string s, .bool false] 59) = W0 at *
  obtain ⟨q1, q2, q3, q4, q5⟩ := HST.out
  refine (HBD.out _ q3).mono ?_
  rintro e w1 ⟨a, c, he, hO, hR, hg⟩
  subst he
  simp only at hO hR ⊢
  obtain ⟨f1, f2⟩ := frm_far q1 q2 (by omega) hg (by simp)
  have RC := Lib.hid f1
  have RT := Lib.hid f2
  have HB1 : Hid (Below w.heap.size w w1) := Lib.hid (q4.grown hg q4.size (fun k hk => by injection hk with hk; omega))
  have HR1 := Lib.hid hR
  have HO1 := Lib.hid (OwnRg.lower hO (B' := w.heap.size) (by omega))
  rw [bodyR_yes HK.out]
  have hRg := Lib.hid (Rngs.of_own hO)
  have HBO := Lib.hid (bod_any f a c w1 hRg hl HK.out)
  unfold bodyV
  have d0 : w1.cell? ⟨w.heap.size + 1, 0, none⟩ = some (.string st'.1) := hR.1 0
  have d1 : w1.cell? ⟨w.heap.size + 1, 1, none⟩ = some (.bool false) := by have := hR.1 1; rw [HF.out] at this; exact this
  generalize bodyX f.k f.a f.b f.c f.d (.slice a f.rs.length c) = x at *
  generalize bodyT f.k = T at *
  rw [HQ.out] at HBO
  obtain ⟨ff, fi, m1, m2, n1, n2, c1, c2⟩ := HBO.out
  have C2 := Lib.hid (c2 w1 (Below.refl _ _))
  clear c1 c2 q1 q2 q3 q4 f1 f2 hO hR hg
  have hlt1 : w.heap.size < w1.heap.size := RC_lt RC.out
  go_wp2_with fail
  refine C2.out.mono ?_
  rintro e w2 ⟨rfl, hb2⟩
  have HB2 : Hid (Below w.heap.size w w2) := Lib.hid (HB1.out.trans (hb2.mono HB1.out.size))
  have RC2 := Lib.hid (Frm.below RC.out hb2 hlt1)
  have RT2 := Lib.hid (Thaw.below RT.out hb2 hlt1)
  clear hb2 RC RT
  have RC := RC2
  have RT := RT2
  obtain ⟨r0, r1, r2, r3, r4, r5⟩ : w2.cell? ⟨w.heap.size, 0, none⟩ = some (.int .i64 0) ∧ w2.cell? ⟨w.heap.size, 1, none⟩ = some (.int .i64 0) ∧ w2.cell? ⟨w.heap.size, 2, none⟩ = some (.int .i64 0) ∧ w2.cell? ⟨w.heap.size, 3, none⟩ = some (.int .i64 0) ∧ w2.cell? ⟨w.heap.size, 4, none⟩ = some (.string ⟨#[]⟩) ∧ w2.cell? ⟨w.heap.size, 5, none⟩ = some (.slice none 0 0) := ⟨RC.out 0, RC.out 1, RC.out 2, RC.out 3, RC.out 4, RC.out 5⟩
  obtain ⟨t0, t1, t2, t3, t4, t5⟩ : w2.frozen? ⟨w.heap.size, 0, none⟩ = false ∧ w2.frozen? ⟨w.heap.size, 1, none⟩ = false ∧ w2.frozen? ⟨w.heap.size, 2, none⟩ = false ∧ w2.frozen? ⟨w.heap.size, 3, none⟩ = false ∧ w2.frozen? ⟨w.heap.size, 4, none⟩ = false ∧ w2.frozen? ⟨w.heap.size, 5, none⟩ = false := ⟨RT.out 0, RT.out 1, RT.out 2, RT.out 3, RT.out 4, RT.out 5⟩
  have RC6 : Hid (Frm ((((((w2.setCell ⟨w.heap.size, 0, none⟩ (.int .i64 0)).setCell ⟨w.heap.size, 1, none⟩ (.int .i64 0)).setCell ⟨w.heap.size, 2, none⟩ (.int .i64 0)).setCell ⟨w.heap.size, 3, none⟩ (.int .i64 0)).setCell ⟨w.heap.size, 4, none⟩ (.string ⟨#[]⟩)).setCell ⟨w.heap.size, 5, none⟩ (.slice none 0 0)) w.heap.size [.int .i64 0, .int .i64 0, .int .i64 0, .int .i64 0, .string ⟨#[]⟩, .slice none 0 0]) := Lib.hid ((((((RC.out.set (i := 0) (by simp) (.int .i64 0)).set (i := 1) (by simp) (.int .i64 0)).set (i := 2) (by simp) (.int .i64 0)).set (i := 3) (by simp) (.int .i64 0)).set (i := 4) (by simp) (.string ⟨#[]⟩)).set (i := 5) (by simp) (.slice none 0 0))
  have B6 : Hid (Below w.heap.size w ((((((w2.setCell ⟨w.heap.size, 0, none⟩ (.int .i64 0)).setCell ⟨w.heap.size, 1, none⟩ (.int .i64 0)).setCell ⟨w.heap.size, 2, none⟩ (.int .i64 0)).setCell ⟨w.heap.size, 3, none⟩ (.int .i64 0)).setCell ⟨w.heap.size, 4, none⟩ (.string ⟨#[]⟩)).setCell ⟨w.heap.size, 5, none⟩ (.slice none 0 0))) := Lib.hid (Below.setCell (Below.setCell (Below.setCell (Below.setCell (Below.setCell (Below.setCell HB2.out (Nat.le_refl _) _) (Nat.le_refl _) _) (Nat.le_refl _) _) (Nat.le_refl _) _) (Nat.le_refl _) _) (Nat.le_refl _) _)
  go_wp2_with fail
  generalize ((((((w2.setCell ⟨w.heap.size, 0, none⟩ (.int .i64 0)).setCell ⟨w.heap.size, 1, none⟩ (.int .i64 0)).setCell ⟨w.heap.size, 2, none⟩ (.int .i64 0)).setCell ⟨w.heap.size, 3, none⟩ (.int .i64 0)).setCell ⟨w.heap.size, 4, none⟩ (.string ⟨#[]⟩)).setCell ⟨w.heap.size, 5, none⟩ (.slice none 0 0)) = W6 at *
  obtain ⟨s0, s1, s2, s3, s4, s5⟩ : W6.cell? ⟨w.heap.size, 0, none⟩ = some (.int .i64 0) ∧ W6.cell? ⟨w.heap.size, 1, none⟩ = some (.int .i64 0) ∧ W6.cell? ⟨w.heap.size, 2, none⟩ = some (.int .i64 0) ∧ W6.cell? ⟨w.heap.size, 3, none⟩ = some (.int .i64 0) ∧ W6.cell? ⟨w.heap.size, 4, none⟩ = some (.string ⟨#[]⟩) ∧ W6.cell? ⟨w.heap.size, 5, none⟩ = some (.slice none 0 0) := ⟨RC6.out 0, RC6.out 1, RC6.out 2, RC6.out 3, RC6.out 4, RC6.out 5⟩
  refine bodyPost_ret (v := .tuple #[frV ⟨0, 0, 0, 0, ⟨#[]⟩, []⟩ (.slice none 0 0), .int .i64 0, .bool false]) ?hr rfl ?_
  case hr => rw [results_cell_tmp2 rfl]; unfold frV; go_simp
  exact .inl ⟨HN.out, none, 0, rfl, B6.out, own_nil _ _ B6.out.size⟩
theorem far6 {W : World} {b b' i : Nat} {v0 v1 v2 v3 v4 v5 : Value} (h : b ≠ b') : ((((((W.setCell ⟨b, 0, none⟩ v0).setCell ⟨b, 1, none⟩ v1).setCell ⟨b, 2, none⟩ v2).setCell ⟨b, 3, none⟩ v3).setCell ⟨b, 4, none⟩ v4).setCell ⟨b, 5, none⟩ v5).cell? ⟨b', i, none⟩ = W.cell? ⟨b', i, none⟩ := by
  rw [World.cell?_setCell_far _ _ _ _ h, World.cell?_setCell_far _ _ _ _ h, World.cell?_setCell_far _ _ _ _ h, World.cell?_setCell_far _ _ _ _ h, World.cell?_setCell_far _ _ _ _ h, World.cell?_setCell_far _ _ _ _ h]
theorem vnorm_own {w : World} {B : Nat} {f : Fr} {a : Option Addr} {c : Nat} (hn : fnorm f = f) (h : OwnRg w B (.slice a f.rs.length c) f.rs) (hB : B ≤ w.heap.size) : ∃ ua uc, vnorm f.k (.slice a f.rs.length c) = .slice ua f.rs.length uc ∧ OwnRg w B (.slice ua f.rs.length uc) f.rs := by
  unfold vnorm
  by_cases h2 : f.k = 2
  · rw [if_pos h2]; exact ⟨a, c, rfl, h⟩
  · rw [if_neg h2]
    have hr : f.rs = [] := by
      have := congrArg Fr.rs hn
      unfold fnorm at this
      simp only [if_neg h2] at this
      exact this.symm
    rw [hr]
    exact ⟨none, 0, rfl, own_nil _ _ hB⟩
/-- What the last store leaves. -/
theorem fd_end {w w3 : World} {f : Fr} {ua : Option Addr} {uc : Nat} {B : Nat} (RC3 : Frm w3 w.heap.size [.int .i64 0, .int .i64 0, .int .i64 0, .int .i64 0, .string ⟨#[]⟩, .slice none 0 0]) (HB3 : Below w.heap.size w w3) (HO3 : OwnRg w3 B (.slice ua f.rs.length uc) f.rs) (hB : w.heap.size < B) : Hid (Frm ((((((w3.setCell ⟨w.heap.size, 0, none⟩ (.int .i64 f.k)).setCell ⟨w.heap.size, 1, none⟩ (.int .i64 f.a)).setCell ⟨w.heap.size, 2, none⟩ (.int .i64 f.b)).setCell ⟨w.heap.size, 3, none⟩ (.int .i64 f.c)).setCell ⟨w.heap.size, 4, none⟩ (.string f.d)).setCell ⟨w.heap.size, 5, none⟩ (.slice ua f.rs.length uc)) w.heap.size [.int .i64 f.k, .int .i64 f.a, .int .i64 f.b, .int .i64 f.c, .string f.d, .slice ua f.rs.length uc] ∧ Below w.heap.size w ((((((w3.setCell ⟨w.heap.size, 0, none⟩ (.int .i64 f.k)).setCell ⟨w.heap.size, 1, none⟩ (.int .i64 f.a)).setCell ⟨w.heap.size, 2, none⟩ (.int .i64 f.b)).setCell ⟨w.heap.size, 3, none⟩ (.int .i64 f.c)).setCell ⟨w.heap.size, 4, none⟩ (.string f.d)).setCell ⟨w.heap.size, 5, none⟩ (.slice ua f.rs.length uc)) ∧ OwnRg ((((((w3.setCell ⟨w.heap.size, 0, none⟩ (.int .i64 f.k)).setCell ⟨w.heap.size, 1, none⟩ (.int .i64 f.a)).setCell ⟨w.heap.size, 2, none⟩ (.int .i64 f.b)).setCell ⟨w.heap.size, 3, none⟩ (.int .i64 f.c)).setCell ⟨w.heap.size, 4, none⟩ (.string f.d)).setCell ⟨w.heap.size, 5, none⟩ (.slice ua f.rs.length uc)) w.heap.size (.slice ua f.rs.length uc) f.rs) := by
  have hne : ∀ x, (Value.slice ua f.rs.length uc).ownBlock = some x → w.heap.size ≠ x := fun x hx => by have := (World.ownsRow.lt HO3 x hx).1; omega
  exact Lib.hid ⟨((((((RC3.set (i := 0) (by simp) (.int .i64 f.k)).set (i := 1) (by simp) (.int .i64 f.a)).set (i := 2) (by simp) (.int .i64 f.b)).set (i := 3) (by simp) (.int .i64 f.c)).set (i := 4) (by simp) (.string f.d)).set (i := 5) (by simp) (.slice ua f.rs.length uc)), Below.setCell (Below.setCell (Below.setCell (Below.setCell (Below.setCell (Below.setCell HB3 (Nat.le_refl _) _) (Nat.le_refl _) _) (Nat.le_refl _) _) (Nat.le_refl _) _) (Nat.le_refl _) _) (Nat.le_refl _) _, own_far (own_far (own_far (own_far (own_far (own_far (OwnRg.lower HO3 (by omega)) hne) hne) hne) hne) hne) hne⟩

set_option maxRecDepth 100000 in
set_option maxHeartbeats 2000000 in
theorem fd_yes (s : ByteArray) (w : World) (hs : s.size ≤ 4194304) (f : Fr) (st' : St) (HPD : Hid (pd s = (f, st'))) (hsz : st'.1.size ≤ s.size) (HNF : Hid (fnorm f = f)) (hl : f.rs.length ≤ 1048576) (HK : Hid (0 ≤ f.k ∧ f.k ≤ 10)) (HF : Hid (st'.2 = false)) (HQ : Hid (finr f = true)) (HN : Hid (dec4 s = some (f, s.size - st'.1.size))) : Calls Try.prog 18 #[.string s] w (FdPost w (dec4 s)) := by
  have HST := fd_start s w
  have HBD := Lib.hid (fun W h => body_any (w.heap.size + 1) (s, false) W h hs)
  rw [show pbody (rI (s, false)).1 (rI (s, false)).2 = (f, st') from HPD.out] at HBD
  unfold BdPost at HBD
  go_enter Try.func18, Try.ntmps18
  go_wp2_with fail
  generalize (w.alloc (.cells #[.int .i64 0, .int .i64 0, .int .i64 0, .int .i64 0, .string ⟨#[]⟩, .slice none 0 0] 25)).alloc (.cells #[.string s, .bool false] 59) = W0 at *
  obtain ⟨q1, q2, q3, q4, q5⟩ := HST.out
  refine (HBD.out _ q3).mono ?_
  rintro e w1 ⟨a, c, he, hO, hR, hg⟩
  subst he
  simp only at hO hR ⊢
  obtain ⟨f1, f2⟩ := frm_far q1 q2 (by omega) hg (by simp)
  have RC := Lib.hid f1
  have RT := Lib.hid f2
  have HB1 : Hid (Below w.heap.size w w1) := Lib.hid (q4.grown hg q4.size (fun k hk => by injection hk with hk; omega))
  have HR1 := Lib.hid hR
  rw [bodyR_yes HK.out]
  have hRg := Lib.hid (Rngs.of_own hO)
  have HBO := Lib.hid (bod_any f a c w1 hRg hl HK.out)
  unfold bodyV
  have d0 : w1.cell? ⟨w.heap.size + 1, 0, none⟩ = some (.string st'.1) := hR.1 0
  have d1 : w1.cell? ⟨w.heap.size + 1, 1, none⟩ = some (.bool false) := by have := hR.1 1; rw [HF.out] at this; exact this
  generalize bodyX f.k f.a f.b f.c f.d (.slice a f.rs.length c) = x at *
  generalize bodyT f.k = T at *
  rw [HQ.out] at HBO
  obtain ⟨ua, uc, hu, hOu⟩ := vnorm_own HNF.out hO hg.size
  rw [hu, HNF.out] at HBO
  obtain ⟨ff, fi, m1, m2, n1, n2, c1, c2⟩ := HBO.out
  unfold frV at c1
  have C1 := Lib.hid c1
  have C2 := Lib.hid (c2 w1 (Below.refl _ _))
  have HOU := Lib.hid hOu
  have hbase : w.heap.size < W0.heap.size := by omega
  clear c1 c2 q1 q2 q3 q4 q5 f1 f2 hO hg hu hOu
  have hlt1 : w.heap.size < w1.heap.size := RC_lt RC.out
  have hltR : w.heap.size + 1 < w1.heap.size := hR.lt
  clear hR
  go_wp2_with fail
  refine C2.out.mono ?_
  rintro e w2 ⟨rfl, hb2⟩
  have HB2 : Hid (Below w.heap.size w w2.drew) := Lib.hid ((HB1.out.trans (hb2.mono HB1.out.size)).drew)
  have RC2 : Hid (Frm w2.drew w.heap.size [.int .i64 0, .int .i64 0, .int .i64 0, .int .i64 0, .string ⟨#[]⟩, .slice none 0 0]) := Lib.hid (Frm.below RC.out hb2.drew hlt1)
  have RT2 : Hid (Thaw w2.drew w.heap.size) := Lib.hid (Thaw.below RT.out hb2.drew hlt1)
  have HOU2 : Hid (OwnRg w2.drew W0.heap.size (.slice ua f.rs.length uc) f.rs) := Lib.hid (own_below HOU.out hb2.drew)
  have d0' : w2.cell? ⟨w.heap.size + 1, 0, none⟩ = some (.string st'.1) := (hb2.cell hltR).trans d0
  have hs2 : w1.heap.size ≤ w2.drew.heap.size := hb2.size
  have D0 : Hid (w2.drew.cell? ⟨w.heap.size + 1, 0, none⟩ = some (.string st'.1)) := Lib.hid d0'
  have v1 : IntKind.i64.wrap ((s.size : Int) - (st'.1.size : Int)) = ((s.size - st'.1.size : Nat) : Int) := by rw [IntWalk.i64_in _ (by omega)]; omega
  clear hb2 d0 d1
  have hR0 : ¬ w.heap.size = w.heap.size + 1 := by omega
  have hR1 : ¬ w.heap.size + 1 = w.heap.size := by omega
  go_wp2_with fail
  go_region_held3 (fun w' => w'.cell? ⟨w.heap.size + 1, 0, none⟩ = some (.string st'.1)) (with_reducible first | assumption | exact D0.out | exact k3 | exact kS)
    (((with_reducible refine (C1.out _).mono ?_); rintro e w3 ⟨rfl, hb3⟩; have k3 : w3.cell? ⟨w.heap.size + 1, 0, none⟩ = some (.string st'.1) := (hb3.cell (Nat.lt_of_lt_of_le hltR hs2)).trans D0.out; have RC3 := Frm.below RC2.out hb3 (Nat.lt_of_lt_of_le hlt1 hs2); have RT3 := Thaw.below RT2.out hb3 (Nat.lt_of_lt_of_le hlt1 hs2); obtain ⟨r0, r1, r2, r3, r4, r5⟩ : w3.cell? ⟨w.heap.size, 0, none⟩ = some (.int .i64 0) ∧ w3.cell? ⟨w.heap.size, 1, none⟩ = some (.int .i64 0) ∧ w3.cell? ⟨w.heap.size, 2, none⟩ = some (.int .i64 0) ∧ w3.cell? ⟨w.heap.size, 3, none⟩ = some (.int .i64 0) ∧ w3.cell? ⟨w.heap.size, 4, none⟩ = some (.string ⟨#[]⟩) ∧ w3.cell? ⟨w.heap.size, 5, none⟩ = some (.slice none 0 0) := ⟨RC3 0, RC3 1, RC3 2, RC3 3, RC3 4, RC3 5⟩; obtain ⟨t0, t1, t2, t3, t4, t5⟩ : w3.frozen? ⟨w.heap.size, 0, none⟩ = false ∧ w3.frozen? ⟨w.heap.size, 1, none⟩ = false ∧ w3.frozen? ⟨w.heap.size, 2, none⟩ = false ∧ w3.frozen? ⟨w.heap.size, 3, none⟩ = false ∧ w3.frozen? ⟨w.heap.size, 4, none⟩ = false ∧ w3.frozen? ⟨w.heap.size, 5, none⟩ = false := ⟨RT3 0, RT3 1, RT3 2, RT3 3, RT3 4, RT3 5⟩; have HE := fd_end RC3 (HB2.out.trans (hb3.mono HB2.out.size)) (own_below HOU2.out hb3) hbase; have kS : ((((((w3.setCell ⟨w.heap.size, 0, none⟩ (.int .i64 f.k)).setCell ⟨w.heap.size, 1, none⟩ (.int .i64 f.a)).setCell ⟨w.heap.size, 2, none⟩ (.int .i64 f.b)).setCell ⟨w.heap.size, 3, none⟩ (.int .i64 f.c)).setCell ⟨w.heap.size, 4, none⟩ (.string f.d)).setCell ⟨w.heap.size, 5, none⟩ (.slice ua f.rs.length uc)).cell? ⟨w.heap.size + 1, 0, none⟩ = some (.string st'.1) := (far6 (Nat.ne_of_lt (Nat.lt_succ_self _))).trans k3))
  clear r0 r1 r2 r3 r4 r5 t0 t1 t2 t3 t4 t5 k3 hb3 RC3 RT3
  generalize ((((((w3.setCell ⟨w.heap.size, 0, none⟩ (.int .i64 f.k)).setCell ⟨w.heap.size, 1, none⟩ (.int .i64 f.a)).setCell ⟨w.heap.size, 2, none⟩ (.int .i64 f.b)).setCell ⟨w.heap.size, 3, none⟩ (.int .i64 f.c)).setCell ⟨w.heap.size, 4, none⟩ (.string f.d)).setCell ⟨w.heap.size, 5, none⟩ (.slice ua f.rs.length uc)) = W6 at *
  obtain ⟨FC6, B6, O6⟩ := HE.out
  have HB6 := Lib.hid B6
  have HO6 := Lib.hid O6
  obtain ⟨s0, s1, s2, s3, s4, s5⟩ : W6.cell? ⟨w.heap.size, 0, none⟩ = some (.int .i64 f.k) ∧ W6.cell? ⟨w.heap.size, 1, none⟩ = some (.int .i64 f.a) ∧ W6.cell? ⟨w.heap.size, 2, none⟩ = some (.int .i64 f.b) ∧ W6.cell? ⟨w.heap.size, 3, none⟩ = some (.int .i64 f.c) ∧ W6.cell? ⟨w.heap.size, 4, none⟩ = some (.string f.d) ∧ W6.cell? ⟨w.heap.size, 5, none⟩ = some (.slice ua f.rs.length uc) := ⟨FC6 0, FC6 1, FC6 2, FC6 3, FC6 4, FC6 5⟩
  clear FC6 B6 O6 HE
  go_wp2_with fail
  refine bodyPost_ret (v := .tuple #[frV f (.slice ua f.rs.length uc), .int .i64 ((s.size - st'.1.size : Nat) : Int), .bool true]) ?hr rfl ?_
  case hr => rw [results_cell_tmp2 rfl]; unfold frV; go_simp
  exact .inr ⟨f, s.size - st'.1.size, ua, uc, HN.out, rfl, HB6.out, HO6.out⟩

theorem ifdec_any (s : ByteArray) (w : World) (hs : s.size ≤ 4194304) : Calls Try.prog 18 #[.string s] w (FdPost w (dec4 s)) := by
  have hp := pres_eq s
  have hl : (pd s).1.rs.length ≤ 16 := pbody_len _ _
  have hn : fnorm (pd s).1 = (pd s).1 := pbody_norm _ _
  have hkk : (pd s).1.k = (rI (s, false)).1 := pbody_k _ _
  have hsn : (pd s).2.2 = false → (0 ≤ (pd s).1.k ∧ (pd s).1.k ≤ 10) → (pd s).2.1.size ≤ s.size := fun h hk => by
    obtain ⟨h3, h4⟩ := pbody_snd (rI (s, false)).1 (by rw [← hkk]; exact hk) (rI (s, false)).2 h
    obtain ⟨h5, h6⟩ := rI_snd h3
    have hz := congrArg ByteArray.size (h6.trans h4)
    rw [size_app] at hz
    show (pbody (rI (s, false)).1 (rI (s, false)).2).2.1.size ≤ s.size
    have h7 : s.size = (fenc (pbody (rI (s, false)).1 (rI (s, false)).2).1).size + (pbody (rI (s, false)).1 (rI (s, false)).2).2.1.size := hz
    omega
  unfold pres at hp
  obtain ⟨f, st', hpd⟩ : ∃ f st', pd s = (f, st') := ⟨_, _, rfl⟩
  rw [hpd] at hp hl hn hsn
  simp only at hp hl hn hsn
  by_cases hk : 0 ≤ f.k ∧ f.k ≤ 10
  · cases hf : st'.2
    · cases hq : finr f
      · rw [if_neg (fun h => by rw [hq] at h; exact absurd h.2.2 (by simp))] at hp
        exact fd_out s w hs f st' (Lib.hid hpd) (by omega) (Lib.hid hk) (Lib.hid hf) (Lib.hid hq) (Lib.hid hp.symm)
      · rw [if_pos ⟨hk, hf, hq⟩] at hp
        exact fd_yes s w hs f st' (Lib.hid hpd) (hsn hf hk) (Lib.hid hn) (by omega) (Lib.hid hk) (Lib.hid hf) (Lib.hid hq) (Lib.hid hp.symm)
    · rw [if_neg (fun h => by rw [hf] at h; exact absurd h.2.1 (by simp))] at hp
      exact fd_bad s w hs f st' (Lib.hid hpd) (Lib.hid hk) (Lib.hid hf) (Lib.hid hp.symm)
  · rw [if_neg (fun h => hk h.1)] at hp
    exact fd_no s w hs f st' (Lib.hid hpd) (Lib.hid hk) (Lib.hid hp.symm)

end Go.Proofs.Ythflokonihegbaa
