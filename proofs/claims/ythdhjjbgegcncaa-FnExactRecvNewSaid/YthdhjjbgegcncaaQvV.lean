/- Chapter 31, the model: RecvValid. -/
import Derived.Test.YthdhjjbgegcncaaQvP
import Derived.Test.YthdhjjbgegcncaaUpq
namespace Go.Proofs.Ythdhjjbgegcncaa
open Go.RowKit
set_option linter.unusedVariables false
set_option linter.unusedSimpArgs false

theorem toList_len (d : ByteArray) : d.toList.length = d.size := by rw [_root_.Go.ByteArray.toList_eq]; simp
theorem toList_nil {d : ByteArray} (h : d.size = 0) : d.toList = [] := List.length_eq_zero_iff.1 ((toList_len d).trans h)
theorem size_nil {d : ByteArray} (h : d.toList = []) : d.size = 0 := by rw [← toList_len, h]; rfl
theorem take_snoc {l : List Qc} {j : Nat} (h : j < l.length) : l.take (j + 1) = l.take j ++ [l.getD j pc0] := by
  rw [List.take_add_one, List.getElem?_eq_getElem h, List.getD_eq_getElem?_getD, List.getElem?_eq_getElem h]
  rfl
theorem pok_take {lo : Int} : ∀ {l : List Qc} (j : Nat), pok lo l → pok lo (l.take j)
  | [], j, h => by simpa using h
  | p :: t, 0, h => by simp [pok]
  | p :: t, j + 1, h => ⟨h.1, h.2.1, pok_take j h.2.2⟩
/-- The first j pieces are in order behind a; the last one ends at x. -/
structure SeenQ (a x : Int) (l : List Qc) (j : Nat) : Prop where
  ok : pok (a + 1) (l.take j)
  x : if j = 0 then x = a else pend 0 (l.take j) = x
  bd : ∀ p ∈ l.take j, p.1 ≤ 30 ∧ p.2.size ≤ 30
theorem SeenQ.zero (a : Int) (l : List Qc) : SeenQ a a l 0 := ⟨trivial, by simp, by simp⟩
theorem SeenQ.lo {a x : Int} {l : List Qc} {j : Nat} (h : SeenQ a x l j) (hj : j ≤ l.length) : (if l.take j = [] then a + 1 else pend (a + 1) (l.take j) + 1) = x + 1 := by
  have hx := h.x
  by_cases h0 : j = 0
  · subst h0
    simp at hx ⊢
    omega
  · rw [if_neg h0] at hx
    have hn : l.take j ≠ [] := by
      intro e
      have := congrArg List.length e
      simp only [List.length_take, List.length_nil] at this
      omega
    rw [if_neg hn, pend_cons (a + 1) 0 hn, hx]
theorem SeenQ.succ {a x : Int} {l : List Qc} {j : Nat} {p : Qc} (h : SeenQ a x l j) (hj : j < l.length) (hp : l.getD j pc0 = p) (h1 : 0 < p.2.size) (h2 : x < p.1) (h3 : p.1 ≤ 30) (h4 : p.2.size ≤ 30) : SeenQ a (p.1 + (p.2.size : Int)) l (j + 1) := by
  have e := take_snoc hj
  rw [hp] at e
  refine ⟨?_, ?_, ?_⟩
  · rw [e]
    exact pok_snoc.2 ⟨h.ok, by rw [h.lo (by omega)]; omega, h1⟩
  · rw [if_neg (by omega), e, pend_snoc]
  · rw [e]
    intro q hq
    rcases List.mem_append.1 hq with hq | hq
    · exact h.bd q hq
    · have : q = p := by simpa using hq
      subst this
      exact ⟨h3, h4⟩
theorem SeenQ.bad {rd a x fi li : Int} {l : List Qc} {j : Nat} {p : Qc} (h : SeenQ a x l j) (hj : j < l.length) (ha : 0 ≤ rd ∧ rd ≤ 1000 → a = rd - 1) (hp : l.getD j pc0 = p) (hb : p.2.size = 0 ∨ p.1 ≤ x ∨ 30 < p.1 ∨ 30 < p.2.size) : ¬ rvok rd l fi li := fun hv => by
  have hm : p ∈ l := by rw [← hp, List.getD_eq_getElem?_getD, List.getElem?_eq_getElem hj]; exact List.getElem_mem hj
  have hk := rvok_pc hv p hm
  obtain ⟨h1, h2, h3, h4, _⟩ := hv
  have e := pok_take (j + 1) h3
  rw [take_snoc hj, hp] at e
  obtain ⟨e1, e2, e3⟩ := pok_snoc.1 e
  have hx := h.x
  have ha' := ha (by omega)
  subst ha'
  have hlo := h.lo (by omega)
  rw [show rd - 1 + 1 = rd by omega] at hlo
  rw [hlo] at e2
  omega
theorem SeenQ.all {rd a x fi li : Int} {l : List Qc} (h : SeenQ a x l l.length) (ha : 0 ≤ rd ∧ rd ≤ 1000 → a = rd - 1) : rvok rd l fi li ↔ (0 ≤ li ∧ li ≤ 30) ∧ (0 ≤ rd ∧ rd ≤ li) ∧ pend rd l ≤ li ∧ (fi = -1 ∨ (pend rd l ≤ fi ∧ fi ≤ li)) := by
  constructor
  · rintro ⟨h1, h2, h3, h4, h5⟩; exact ⟨h1, h2, h4, h5⟩
  · rintro ⟨h1, h2, h4, h5⟩
    refine ⟨h1, h2, ?_, h4, h5⟩
    have := h.ok
    rwa [List.take_length, ha (by omega), show rd - 1 + 1 = rd by omega] at this

theorem SeenQ.pbd {a x : Int} {l : List Qc} (h : SeenQ a x l l.length) (ha : -1 ≤ a) : PBd l := fun p hp => by
  have hb := h.bd p (by rw [List.take_length]; exact hp)
  have ho := h.ok
  rw [List.take_length] at ho
  have := pok_bd (rd := 0) ho p hp
  omega

set_option maxRecDepth 100000 in
set_option maxHeartbeats 8000000 in
theorem srvval_any (v : Value) (l : List Pc) (rd fi li : Int) (w : World) (h : Pcs w v l) (hl : l.length ≤ 2000000) (hsz : ∀ p ∈ l, p.2.size ≤ 2000000) :
    Calls Try.prog 16 #[.agg #[.int .i64 rd, v, .int .i64 fi, .int .i64 li]] w fun e w' => e = .returned (.bool (decide (rvok rd l fi li))) ∧ Below w.heap.size w w' := by
  have HP := Lib.hid h
  have HZ : Hid (∀ j, j < l.length → (l.getD j pc0).2.size ≤ 2000000) := Lib.hid fun j hj => by
    have e : l.getD j pc0 = l[j] := by rw [List.getD_eq_getElem?_getD, List.getElem?_eq_getElem hj]; rfl
    rw [e]; exact hsz _ (List.getElem_mem hj)
  obtain ⟨a, ha⟩ : ∃ a, IntKind.i64.wrap (rd - 1) = a := ⟨_, rfl⟩
  have HA : Hid (0 ≤ rd ∧ rd ≤ 1000 → a = rd - 1) := Lib.hid fun h => by rw [← ha]; exact IntWalk.i64_in _ (by omega)
  obtain ⟨g, o, c, rfl, _, hc⟩ := h
  have HC := Lib.hid hc
  clear hc hsz
  have R0 := Lib.hid (Frm.new w 24 [.int .i64 rd, .slice (some ⟨g, o, none⟩) l.length c, .int .i64 fi, .int .i64 li])
  have BB : Hid (Below w.heap.size w (w.alloc (.cells #[.int .i64 rd, .slice (some ⟨g, o, none⟩) l.length c, .int .i64 fi, .int .i64 li] 24))) := Lib.hid ((Below.refl _ _).alloc (Nat.le_refl _) _)
  go_enter Try.func16, Try.ntmps16
  go_wp2_with fail
  have HLB : Hid (-9223372036854775808 ≤ a) := Lib.hid (by rw [← ha, IntKind.wrap_i64]; omega)
  obtain ⟨W0, hW0⟩ : ∃ W0, W0 = w.alloc (.cells #[.int .i64 rd, .slice (some ⟨g, o, none⟩) l.length c, .int .i64 fi, .int .i64 li] 24) := ⟨_, rfl⟩
  rw [← hW0] at R0 BB ⊢
  clear hW0
  go_loopw [3, 4] (fun lv iv wr => ∃ (j : Nat) (x : Int), j ≤ l.length ∧ iv = .int .i64 (j : Int) ∧ lv = .int .i64 x ∧ Hid (SeenQ a x l j) ∧ Hid (-9223372036854775808 ≤ x) ∧ Hid (Below w.heap.size w wr) ∧ Hid (Frm wr w.heap.size [.int .i64 rd, .slice (some ⟨g, o, none⟩) l.length c, .int .i64 fi, .int .i64 li])) (fun _ iv _ => l.length - (intOf iv).toNat)
  case atStart => exact ⟨0, a, Nat.zero_le _, rfl, rfl, Lib.hid (SeenQ.zero _ _), HLB, BB, R0⟩
  case round =>
    clear BB R0
    obtain ⟨j, x, hj, rfl, rfl, HS, HLX, HB, HR⟩ := hrel
    have r0 := HR.out 0
    have r1 := HR.out 1
    have r2 := HR.out 2
    have r3 := HR.out 3
    by_cases hlt : j < l.length
    · have hlt' : (j : Int) < (l.length : Int) := by omega
      obtain ⟨d0, d1⟩ := HC.out j hlt
      have hg := World.block_lt_of_cell? w _ d0
      have e0 := (HB.out.cell (p := ⟨g, o + j * 2, none⟩) hg).trans d0
      have e1 := (HB.out.cell (p := ⟨g, o + j * 2 + 1, none⟩) hg).trans d1
      clear d0 d1
      obtain ⟨p, hp⟩ : ∃ p, l.getD j pc0 = p := ⟨_, rfl⟩
      have hz := HZ.out j hlt
      rw [hp] at e0 e1 hz
      have HBAD := Lib.hid (fun hb => HS.out.bad (fi := fi) (li := li) hlt HA.out hp hb)
      have HSU := Lib.hid (fun h1 h2 h3 h4 => HS.out.succ hlt hp h1 h2 h3 h4)
      clear hp
      obtain ⟨y, d⟩ := p
      simp only at e0 e1 hz
      have hgw : g < wr.heap.size := World.block_lt_of_cell? wr _ e0
      have RR := Lib.hid (HR.out.below ((Below.refl _ _).alloc (Nat.le_refl _) (.cells #[.int .i64 y, .string d] 51)) (World.block_lt_of_cell? wr _ (HR.out 0)))
      have HB1 := Lib.hid (HB.out.alloc HB.out.size (.cells #[.int .i64 y, .string d] 51))
      by_cases k1 : d.size = 0
      · have HF := Lib.hid (decide_eq_false (HBAD.out (.inl k1)))
        have f1 : d.toList = [] := toList_nil k1
        have f2 : d.toList.isEmpty = true := by rw [f1]; rfl
        go_wp2_with fail
        go_ret
        exact ⟨ret_bool HF.out.symm, HB1.out⟩
      have f1 : ¬ d.toList = [] := fun e => k1 (size_nil e)
      have f2 : d.toList.isEmpty = false := by rw [List.isEmpty_eq_false_iff]; exact f1
      by_cases k2 : y ≤ x
      · have HF := Lib.hid (decide_eq_false (HBAD.out (.inr (.inl k2))))
        have f3 : decide (y ≤ x) = true := decide_eq_true k2
        go_wp2_with fail
        go_ret
        exact ⟨ret_bool HF.out.symm, HB1.out⟩
      have f3 : decide (y ≤ x) = false := decide_eq_false k2
      by_cases k3 : 30 < y
      · have HF := Lib.hid (decide_eq_false (HBAD.out (.inr (.inr (.inl k3)))))
        have f4 : decide (30 < y) = true := decide_eq_true k3
        have f5 : decide (y > 30) = true := decide_eq_true k3
        go_wp2_with fail
        go_ret
        exact ⟨ret_bool HF.out.symm, HB1.out⟩
      have f4 : decide (30 < y) = false := decide_eq_false k3
      have f5 : decide (y > 30) = false := decide_eq_false k3
      by_cases k4 : (30 : Int) < (d.size : Int)
      · have HF := Lib.hid (decide_eq_false (HBAD.out (.inr (.inr (.inr (by simp only; omega))))))
        have f6 : decide ((30 : Int) < (d.size : Int)) = true := decide_eq_true k4
        have f7 : decide ((d.size : Int) > 30) = true := decide_eq_true k4
        go_wp2_with fail
        go_ret
        exact ⟨ret_bool HF.out.symm, HB1.out⟩
      have f6 : decide ((30 : Int) < (d.size : Int)) = false := decide_eq_false k4
      have f7 : decide ((d.size : Int) > 30) = false := decide_eq_false k4
      have HS1 := Lib.hid (HSU.out (by simp only; omega) (by simp only; omega) (by simp only; omega) (by simp only; omega))
      simp only at HS1
      have hw : IntKind.i64.wrap (y + (d.size : Int)) = y + (d.size : Int) := IntWalk.i64_in _ (by have := HLX.out; omega)
      have HL1 : Hid (-9223372036854775808 ≤ y + (d.size : Int)) := Lib.hid (by have := HLX.out; omega)
      go_wp2_with fail
      go_roundw
      case rel => exact ⟨j + 1, y + (d.size : Int), by omega, by go_num, by go_num, HS1, HL1, HB1, RR⟩
      case measure => simp [intOf]; omega
    · have hnl : ¬ (j : Int) < (l.length : Int) := by omega
      have hje : j = l.length := by omega
      have HS9 : Hid (SeenQ a x l l.length) := Lib.hid (by rw [← hje]; exact HS.out)
      have HAL := Lib.hid (HS9.out.all (fi := fi) (li := li) HA.out)
      obtain ⟨px, hpx⟩ : ∃ px, pend rd l = px := ⟨_, rfl⟩
      rw [hpx] at HAL
      have HX := Lib.hid hpx
      clear hpx
      have KL : ∀ b : Bool, decide (0 ≤ li ∧ li ≤ 30) = b → Hid (∀ m : Up wr, Calls Try.prog 29 #[.int .i64 li, .int .i64 0, .int .i64 30] m.w fun e w' => e = .returned (.bool b) ∧ ∃ m' : Up wr, w' = m'.w) := fun b hb => Lib.hid (up_call fun W _ => (l6In_any li 0 30 W).mono fun e w' h => by rw [hb] at h; exact ⟨h.1, by rw [← h.2]; exact Below.refl _ _⟩)
      have KR : ∀ b : Bool, decide (0 ≤ rd ∧ rd ≤ li) = b → Hid (∀ m : Up wr, Calls Try.prog 29 #[.int .i64 rd, .int .i64 0, .int .i64 li] m.w fun e w' => e = .returned (.bool b) ∧ ∃ m' : Up wr, w' = m'.w) := fun b hb => Lib.hid (up_call fun W _ => (l6In_any rd 0 li W).mono fun e w' h => by rw [hb] at h; exact ⟨h.1, by rw [← h.2]; exact Below.refl _ _⟩)
      have KF : ∀ b : Bool, decide (px ≤ fi ∧ fi ≤ li) = b → Hid (∀ m : Up wr, Calls Try.prog 29 #[.int .i64 fi, .int .i64 px, .int .i64 li] m.w fun e w' => e = .returned (.bool b) ∧ ∃ m' : Up wr, w' = m'.w) := fun b hb => Lib.hid (up_call fun W _ => (l6In_any fi px li W).mono fun e w' h => by rw [hb] at h; exact ⟨h.1, by rw [← h.2]; exact Below.refl _ _⟩)
      have KE : 0 ≤ rd ∧ rd ≤ 1000 → Hid (∀ m : Up wr, Calls Try.prog 35 #[.agg #[.int .i64 rd, .slice (some ⟨g, o, none⟩) l.length c, .int .i64 fi, .int .i64 li]] m.w fun e w' => e = .returned (.int .i64 px) ∧ ∃ m' : Up wr, w' = m'.w) := fun hr => Lib.hid (up_call fun W hW => (send_any _ l rd fi li W (Pcs.below HP.out (HB.out.trans (hW.mono HB.out.size))) (HS9.out.pbd (by have := HA.out hr; omega)) (by omega)).mono fun e w' h => by rw [HX.out] at h; exact h)
      have KL' := Lib.hid KL
      have KR' := Lib.hid KR
      have KF' := Lib.hid KF
      have KE' := Lib.hid KE
      clear KL KR KF KE
      have q0 := Up.cell r0
      have q1 := Up.cell r1
      have q2 := Up.cell r2
      have q3 := Up.cell r3
      by_cases k1 : 0 ≤ li ∧ li ≤ 30
      case neg =>
        have C1 := KL'.out false (decide_eq_false k1)
        have HF := Lib.hid (decide_eq_false (fun h => k1 (HAL.out.1 h).1))
        go_wp2_with fail
        clear r0 r1 r2 r3
        refine up_region wr (Below.refl _ _) (by kernel_rfl) (by kernel_rfl) ?_
        repeat (go_big_quiet_step ((first | (go_at_call 29; (with_reducible exact C1.out _)))))
        refine wpQuiet_nil ?_
        rintro _ ⟨⟨W2, hb2⟩, rfl⟩
        have B2 := Lib.hid (HB.out.trans (hb2.mono HB.out.size))
        go_wp2_with fail
        go_ret
        exact ⟨ret_bool HF.out.symm, B2.out⟩
      by_cases k2 : 0 ≤ rd ∧ rd ≤ li
      case neg =>
        have C1 := KL'.out true (decide_eq_true k1)
        have C2 := KR'.out false (decide_eq_false k2)
        have HF := Lib.hid (decide_eq_false (fun h => k2 (HAL.out.1 h).2.1))
        go_wp2_with fail
        clear r0 r1 r2 r3
        refine up_region wr (Below.refl _ _) (by kernel_rfl) (by kernel_rfl) ?_
        repeat (go_big_quiet_step ((first | (go_at_call 29; (with_reducible exact C1.out _)) | (go_at_call 29; (with_reducible exact C2.out _)))))
        refine wpQuiet_nil ?_
        rintro _ ⟨⟨W2, hb2⟩, rfl⟩
        have B2 := Lib.hid (HB.out.trans (hb2.mono HB.out.size))
        go_wp2_with fail
        go_ret
        exact ⟨ret_bool HF.out.symm, B2.out⟩
      by_cases k3 : px ≤ li
      case neg =>
        have C1 := KL'.out true (decide_eq_true k1)
        have C2 := KR'.out true (decide_eq_true k2)
        have C3 := KE'.out (by omega)
        have f1 : decide (px ≤ li) = false := decide_eq_false k3
        have HF := Lib.hid (decide_eq_false (fun h => k3 (HAL.out.1 h).2.2.1))
        go_wp2_with fail
        clear r0 r1 r2 r3
        refine up_region wr (Below.refl _ _) (by kernel_rfl) (by kernel_rfl) ?_
        repeat (go_big_quiet_step ((first | (go_at_call 29; (with_reducible exact C1.out _)) | (go_at_call 29; (with_reducible exact C2.out _)) | (go_at_call 35; (with_reducible exact C3.out _)))))
        refine wpQuiet_nil ?_
        rintro _ ⟨⟨W2, hb2⟩, rfl⟩
        have B2 := Lib.hid (HB.out.trans (hb2.mono HB.out.size))
        go_wp2_with fail
        go_ret
        exact ⟨ret_bool HF.out.symm, B2.out⟩
      have f1 : decide (px ≤ li) = true := decide_eq_true k3
      by_cases k4 : fi = -1
      case pos =>
        have C1 := KL'.out true (decide_eq_true k1)
        have C2 := KR'.out true (decide_eq_true k2)
        have C3 := KE'.out (by omega)
        have f2 : (fi == -1) = true := by rw [beq_iff_eq]; exact k4
        have HF := Lib.hid (decide_eq_true (HAL.out.2 ⟨k1, k2, k3, .inl k4⟩))
        clear k4
        go_wp2_with fail
        clear r0 r1 r2 r3
        refine up_region wr (Below.refl _ _) (by kernel_rfl) (by kernel_rfl) ?_
        repeat (go_big_quiet_step ((first | (go_at_call 29; (with_reducible exact C1.out _)) | (go_at_call 29; (with_reducible exact C2.out _)) | (go_at_call 35; (with_reducible exact C3.out _)))))
        refine wpQuiet_nil ?_
        rintro _ ⟨⟨W2, hb2⟩, rfl⟩
        have B2 := Lib.hid (HB.out.trans (hb2.mono HB.out.size))
        go_wp2_with fail
        go_ret
        exact ⟨ret_bool HF.out.symm, B2.out⟩
      have f2 : (fi == -1) = false := by rw [beq_eq_false_iff_ne]; exact k4
      by_cases k5 : px ≤ fi ∧ fi ≤ li
      case pos =>
        have C1 := KL'.out true (decide_eq_true k1)
        have C2 := KR'.out true (decide_eq_true k2)
        have C3 := KE'.out (by omega)
        have C4 := KF'.out true (decide_eq_true k5)
        have HF := Lib.hid (decide_eq_true (HAL.out.2 ⟨k1, k2, k3, .inr k5⟩))
        go_wp2_with fail
        clear r0 r1 r2 r3
        refine up_region wr (Below.refl _ _) (by kernel_rfl) (by kernel_rfl) ?_
        repeat (go_big_quiet_step ((first | (go_at_call 29; (with_reducible exact C1.out _)) | (go_at_call 29; (with_reducible exact C2.out _)) | (go_at_call 35; (with_reducible exact C3.out _)) | (go_at_call 29; (with_reducible exact C4.out _)))))
        refine wpQuiet_nil ?_
        rintro _ ⟨⟨W2, hb2⟩, rfl⟩
        have B2 := Lib.hid (HB.out.trans (hb2.mono HB.out.size))
        go_wp2_with fail
        go_ret
        exact ⟨ret_bool HF.out.symm, B2.out⟩
      have C1 := KL'.out true (decide_eq_true k1)
      have C2 := KR'.out true (decide_eq_true k2)
      have C3 := KE'.out (by omega)
      have C4 := KF'.out false (decide_eq_false k5)
      have HF := Lib.hid (decide_eq_false (fun h => (HAL.out.1 h).2.2.2.elim k4 k5))
      go_wp2_with fail
      clear r0 r1 r2 r3
      refine up_region wr (Below.refl _ _) (by kernel_rfl) (by kernel_rfl) ?_
      repeat (go_big_quiet_step ((first | (go_at_call 29; (with_reducible exact C1.out _)) | (go_at_call 29; (with_reducible exact C2.out _)) | (go_at_call 35; (with_reducible exact C3.out _)) | (go_at_call 29; (with_reducible exact C4.out _)))))
      refine wpQuiet_nil ?_
      rintro _ ⟨⟨W2, hb2⟩, rfl⟩
      have B2 := Lib.hid (HB.out.trans (hb2.mono HB.out.size))
      go_wp2_with fail
      go_ret
      exact ⟨ret_bool HF.out.symm, B2.out⟩
end Go.Proofs.Ythdhjjbgegcncaa
