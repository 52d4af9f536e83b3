/- Chapter 11, the program: Derivable, Opened, withoutKey, Guards. -/
import Derived.Test.YtakfohcnclmkbabIDa
import Derived.Test.YtakfohcnclmkbabSGd
import Derived.Test.YtakfohcnclmkbabOwnB
namespace Go.Proofs.Ytakfohcnclmkbab
open Go.RowKit
set_option linter.unusedVariables false
set_option linter.unusedSimpArgs false

theorem memL_db {l : List Bx} {k L : List Int} (hL : ∀ x, x ∈ L ↔ Ders l k x) (n : Int) : decide (n ∈ L) = db l k n := by
  rw [Bool.eq_iff_iff, decide_eq_true_iff, hL, db_iff]

set_option maxRecDepth 100000 in
set_option maxHeartbeats 1000000 in
theorem idble_any (v u : Value) (l : List Bx) (k : List Int) (n : Int) (w : World) (h : Bxs w v l) (hk : Ints w u k) (hl : l.length ≤ 1048576) (hlen : ∀ b ∈ l, b.2.length ≤ 1048576) (hkl : k.length ≤ 1048576) (hn : i64ok n) :
    Calls Try.prog 21 #[v, u, .int .i64 n] w fun e w' => e = .returned (.bool (db l k n)) ∧ Below w.heap.size w w' := by
  have ID := Lib.hid (ida_any v u l k w h hk hl hlen hkl)
  have HN := Lib.hid hn
  obtain ⟨a, c, rfl, _⟩ := h
  obtain ⟨ka, kc, rfl, _⟩ := hk
  clear hl hlen hkl hn
  go_enter Try.func21, Try.ntmps21
  go_wp2_with fail
  refine ID.out.mono ?_
  rintro e w1 ⟨m, L, rfl, hb, _, hm, hLl, hL⟩
  have HB := Lib.hid hb
  have hlook := hm.look HN.out
  rw [memL_db hL] at hlook
  clear hb hm hLl hL
  go_wp2_with fail
  go_ret
  exact BoolPost' rfl HB.out

set_option maxRecDepth 100000 in
set_option maxHeartbeats 1000000 in
theorem iopened_any (v u : Value) (l : List Bx) (k : List Int) (w : World) (h : Bxs w v l) (hk : Ints w u k) (hl : l.length ≤ 1048576) (hlen : ∀ b ∈ l, b.2.length ≤ 1048576) (hkl : k.length ≤ 1048576) (hkey : ∀ b ∈ l, i64ok b.1) :
    Calls Try.prog 23 #[v, u] w (IntsPost w (openedL l k)) := by
  have ID := Lib.hid (ida_any v u l k w h hk (by omega) hlen hkl)
  have HK := Lib.hid hkey
  obtain ⟨a, c, rfl, hc⟩ := h
  obtain ⟨ka, kc, rfl, _⟩ := hk
  have HC := Lib.hid hc
  clear hlen hkl hkey hc
  go_enter Try.func23, Try.ntmps23
  go_wp2_with fail
  refine ID.out.mono ?_
  rintro e w1 ⟨m, L, rfl, hb, hm0, hm, hLl, hL⟩
  have HB1 := Lib.hid hb
  have HM1 := Lib.hid hm
  have HL := Lib.hid (memL_db hL)
  clear hb hm hLl hL
  go_wp2_with fail
  go_loopw [6, 15] (fun ov iv wr => ∃ j : Nat, j ≤ l.length ∧ iv = .int .i64 (j : Int) ∧ Hid (Below w.heap.size w wr) ∧ Hid (OwnI wr w.heap.size ov (opL l k j)) ∧ Hid (MapHas wr m L)) (fun _ iv _ => l.length - (intOf iv).toNat)
  case atStart => exact ⟨0, Nat.zero_le _, rfl, Lib.hid (HB1.out.alloc HB1.out.size _), Lib.hid (OwnI.new _ _ HB1.out.size), Lib.hid (HM1.out.kept (Below.heap_alloc _ _ _ HM1.out.lt))⟩
  case round =>
    clear HB1 HM1
    obtain ⟨j, hj, rfl, HB, HO, HM⟩ := hrel
    obtain ⟨oa, oc, rfl⟩ := HO.out.shape
    by_cases hlt : j < l.length
    · have hlt' : (j : Int) < (l.length : Int) := by omega
      obtain ⟨g, o, rfl, hc⟩ := HC.out (by rintro rfl; simp at hlt)
      obtain ⟨ra, rc, hf⟩ := hc j hlt
      have hg := World.block_lt_of_cell? w _ hf.1
      have HS := Lib.hid (opL_succ (l := l) (k := k) (m := j))
      have HLN := Lib.hid (opL_len l k j)
      have hkb := HK.out _ (takeB l j hlt).2
      clear hc
      generalize opL l k j = acc at *
      generalize l.getD j bxD = b at *
      obtain ⟨c0, c1, _⟩ := hf
      have e0 := (HB.out.cell (p := ⟨g, o + j * 2, none⟩) hg).trans c0
      have e1 := (HB.out.cell (p := ⟨g, o + j * 2 + 1, none⟩) hg).trans c1
      obtain ⟨key, ins⟩ := b
      simp only at e0 e1 hkb HS
      have hlook : ∀ W : World, MapHas W m L → (Instr.lookup 56 (.map (some m)) (.int .i64 key) false).run Try.prog W = .ok (.bool (db l k key)) W := fun W hW => by rw [hW.look hkb, HL.out]
      have hA : Below wr.heap.size wr (wr.alloc (.cells #[.int .i64 key, .slice ra ins.length rc] 43)) := (Below.refl _ _).alloc (Nat.le_refl _) _
      have HBx : Hid (Below w.heap.size w (wr.alloc (.cells #[.int .i64 key, .slice ra ins.length rc] 43))) := Lib.hid (HB.out.trans (hA.mono HB.out.size))
      have HOx := Lib.hid (HO.out.below hA)
      have HMx : Hid (MapHas (wr.alloc (.cells #[.int .i64 key, .slice ra ins.length rc] 43)) m L) := Lib.hid (HM.out.kept (hA.block _ HM.out.lt))
      have hl1 := hlook _ HM.out
      have hl2 := hlook _ HMx.out
      clear hlook hkb hA c0 c1
      cases hq : db l k key with
      | true =>
        rw [hq] at hl1 hl2
        have HS2 := Lib.hid (HS.out.1 hq)
        clear hq HS
        have HSW := Lib.hid HBx.out.size
        go_wp2_with ((at_builtin; refine wpList_app_int _ rfl _ _ rfl w.heap.size _ acc rfl HOx.out _ _ _ rfl (by simp) ?c1 ?c2 ?_))
        case c1 => have := HLN.out; omega
        case c2 => have := HSW.out; simpa using this
        intro v' w4 ho hgr hbk
        have HB4 : Hid (Below w.heap.size w w4) := Lib.hid (OwnI.grown_below HBx.out HOx.out HSW.out hgr)
        have HO4 := Lib.hid ho
        have HM4 : Hid (MapHas w4 m L) := Lib.hid ((HMx.out.kept (Below.heap_alloc _ _ _ HMx.out.lt)).kept (hgr.block m (by have := HMx.out.lt; simp at this ⊢; omega) (fun e => HMx.out.ne_row HOx.out e.symm)))
        clear ho hgr hbk
        go_wp2_with fail
        go_roundw
        case rel => exact ⟨j + 1, by omega, by go_num, HB4, by rw [HS2.out]; exact HO4, HM4⟩
        case measure => simp [intOf]; omega
      | false =>
        rw [hq] at hl1 hl2
        have HS2 := Lib.hid (HS.out.2 hq)
        clear hq HS
        go_wp2_with fail
        go_roundw
        case rel => exact ⟨j + 1, by omega, by go_num, HBx, by rw [HS2.out]; exact HOx, HMx⟩
        case measure => simp [intOf]; omega
    · have hlt' : ¬ (j : Int) < (l.length : Int) := by omega
      have HE : Hid (opL l k j = openedL l k) := Lib.hid (by rw [show j = l.length by omega]; rfl)
      go_wp2_with fail
      go_ret
      exact ⟨_, rfl, HB.out, by rw [← HE.out]; exact HO.out⟩

/-- The boxes of another key: what is listed lies in the row, its atoms where they lay. -/
def WoPost (w : World) (l : List Bx) (e : Ending) (w' : World) : Prop := ∃ v, e = .returned v ∧ Below w.heap.size w w' ∧ Bxs w' v l
theorem without_succ {l : List Bx} {key : Int} {j : Nat} (h : j < l.length) : ((l.getD j bxD).1 ≠ key → without (l.take (j + 1)) key = without (l.take j) key ++ [l.getD j bxD]) ∧ ((l.getD j bxD).1 = key → without (l.take (j + 1)) key = without (l.take j) key) := by
  rw [(takeB l j h).1]
  unfold without
  rw [List.filter_append]
  constructor
  · intro h; rw [List.filter_cons_of_pos (by simpa using h)]; rfl
  · intro h; rw [List.filter_cons_of_neg (by simpa using h)]; simp

set_option maxRecDepth 100000 in
set_option maxHeartbeats 1000000 in
theorem iwo_any (v : Value) (l : List Bx) (key : Int) (w : World) (h : Bxs w v l) (hl : l.length ≤ 1048576) :
    Calls Try.prog 40 #[v, .int .i64 key] w (WoPost w (without l key)) := by
  obtain ⟨a, c, rfl, hc⟩ := h
  have HC := Lib.hid hc
  clear hc
  go_enter Try.func40, Try.ntmps40
  go_wp2_with fail
  go_loopw [5, 11] (fun ov iv wr => ∃ (j : Nat) (rows : List BxR), j ≤ l.length ∧ rows.length ≤ j ∧ iv = .int .i64 (j : Int) ∧ Hid (Below w.heap.size w wr) ∧ Hid (OwnB wr w.heap.size ov rows) ∧ Hid (rows.map Prod.fst = without (l.take j) key) ∧ Hid (∀ r ∈ rows, Ints w (bsl r) r.1.2)) (fun _ iv _ => l.length - (intOf iv).toNat)
  case atStart => exact ⟨0, [], Nat.zero_le _, Nat.le_refl _, rfl, Lib.hid ((Below.refl _ _).alloc (Nat.le_refl _) _), Lib.hid (OwnB.new _ _ (Nat.le_refl _)), Lib.hid rfl, Lib.hid (by simp)⟩
  case round =>
    obtain ⟨j, rows, hj, hrl, rfl, HB, HO, HE, HR⟩ := hrel
    obtain ⟨oa, oc, rfl⟩ := HO.out.shape
    by_cases hlt : j < l.length
    · have hlt' : (j : Int) < (l.length : Int) := by omega
      obtain ⟨g, o, rfl, hc⟩ := HC.out (by rintro rfl; simp at hlt)
      obtain ⟨ra, rc, hf⟩ := hc j hlt
      have hg := World.block_lt_of_cell? w _ hf.1
      have HS := Lib.hid (without_succ (key := key) hlt)
      clear hc
      generalize hbq : l.getD j bxD = b at *
      clear hbq
      obtain ⟨c0, c1, hi⟩ := hf
      have e0 := (HB.out.cell (p := ⟨g, o + j * 2, none⟩) hg).trans c0
      have e1 := (HB.out.cell (p := ⟨g, o + j * 2 + 1, none⟩) hg).trans c1
      obtain ⟨k0, ins⟩ := b
      simp only at e0 e1 hi HS
      have HI := Lib.hid hi
      have hA : Below wr.heap.size wr (wr.alloc (.cells #[.int .i64 k0, .slice ra ins.length rc] 43)) := (Below.refl _ _).alloc (Nat.le_refl _) _
      have HBx : Hid (Below w.heap.size w (wr.alloc (.cells #[.int .i64 k0, .slice ra ins.length rc] 43))) := Lib.hid (HB.out.trans (hA.mono HB.out.size))
      have HOx := Lib.hid (HO.out.below hA)
      clear hA c0 c1 hi
      by_cases hq : k0 = key
      · have hb : (k0 == key) = true := by rw [hq]; exact beq_self_eq_true key
        have hbn : (k0 != key) = false := by simp [hq]
        have HS2 := Lib.hid (HS.out.2 hq)
        clear hq HS
        go_wp2_with fail
        go_roundw
        case rel => exact ⟨j + 1, rows, by omega, by omega, by go_num, HBx, HOx, Lib.hid (by rw [HS2.out]; exact HE.out), HR⟩
        case measure => simp [intOf]; omega
      · have hb : (k0 == key) = false := by rw [beq_eq_false_iff_ne]; exact hq
        have hbn : (k0 != key) = true := by simp [hq]
        have HS2 := Lib.hid (HS.out.1 hq)
        have HSW := Lib.hid HBx.out.size
        clear hq HS
        go_wp2_with (at_builtin; refine wpList_app_box _ rfl _ _ rfl w.heap.size _ rows rfl HOx.out ((k0, ins), ra, rc) _ _ rfl (by simp) ?c1 ?c2 ?_)
        case c1 => omega
        case c2 => have := HSW.out; simpa using this
        intro v' w4 ho hgr hbk
        have HB4 : Hid (Below w.heap.size w w4) := Lib.hid (OwnB.grown_below HBx.out HOx.out HSW.out hgr)
        have HO4 := Lib.hid ho
        clear ho hgr hbk
        go_wp2_with fail
        go_roundw
        case rel =>
          refine ⟨j + 1, rows ++ [((k0, ins), ra, rc)], by omega, by simp; omega, by go_num, HB4, HO4, Lib.hid (by rw [HS2.out, List.map_append, HE.out]; rfl), Lib.hid fun r hr => ?_⟩
          rcases List.mem_append.1 hr with hr | hr
          · exact HR.out r hr
          · rw [List.mem_singleton.1 hr]; exact HI.out
        case measure => simp [intOf]; omega
    · have hlt' : ¬ (j : Int) < (l.length : Int) := by omega
      have hE := HE.out
      rw [List.take_of_length_le (by omega)] at hE
      have HE2 := Lib.hid hE
      clear hE
      go_wp2_with fail
      go_ret
      exact ⟨_, rfl, HB.out, by rw [← HE2.out]; exact HO.out.bxs fun r hr => (HR.out r hr).below HB.out⟩

theorem without_le (l : List Bx) (s : Int) : (without l s).length ≤ l.length := List.length_filter_le _ _

set_option maxRecDepth 100000 in
set_option maxHeartbeats 1000000 in
theorem iguards_any (v u : Value) (l : List Bx) (k : List Int) (n : Int) (w : World) (h : Bxs w v l) (hk : Ints w u k) (hl : l.length ≤ 1048576) (hlen : ∀ b ∈ l, b.2.length ≤ 1048576) (hkl : k.length ≤ 1048576) (hn : i64ok n) :
    Calls Try.prog 25 #[v, u, .int .i64 n] w (IntsPost w (guardsL l k n)) := by
  have SD := Lib.hid (fun W hW hK => idble_any v u l k n W hW hK (by omega) hlen hkl hn)
  have SW := Lib.hid (fun s W hW => iwo_any v l s W hW hl)
  have SE := Lib.hid (fun s v' W (hW : Bxs W v' (without l s)) hK => idble_any v' u (without l s) k n W hW hK (by have := without_le l s; omega) (fun b hb => hlen b (mem_without.1 hb).1) hkl hn)
  have HV := Lib.hid h
  have HU := Lib.hid hk
  have HO0 : Hid (OwnI (w.alloc (.cells #[] 3)) w.heap.size (.slice (some ⟨w.heap.size, 0, none⟩) 0 0) []) := Lib.hid (OwnI.new _ _ (Nat.le_refl _))
  have HB0 : Hid (Below w.heap.size w (w.alloc (.cells #[] 3))) := Lib.hid ((Below.refl _ _).alloc (Nat.le_refl _) _)
  have hsz : (w.alloc (.cells #[] 3)).heap.size = w.heap.size + 1 := by simp
  obtain ⟨a, c, rfl, _⟩ := h
  obtain ⟨ka, kc, rfl, _⟩ := hk
  clear hlen hkl hn
  go_enter Try.func25, Try.ntmps25
  go_wp2_with fail
  refine (SD.out _ (HV.out.below HB0.out) (HU.out.below HB0.out)).mono ?_
  rintro e w1 ⟨rfl, hb⟩
  have HB1 : Hid (Below w.heap.size w w1) := Lib.hid (HB0.out.trans (hb.mono (by omega)))
  have HO1 : Hid (OwnI w1 w.heap.size (.slice (some ⟨w.heap.size, 0, none⟩) 0 0) []) := Lib.hid (HO0.out.below hb)
  have hsz1 : w.heap.size + 1 ≤ w1.heap.size := by have := hb.size; omega
  clear hb HO0 HB0 hsz
  cases hq : db l k n with
  | false =>
    have HE := Lib.hid (guards_no hq)
    clear hq
    go_wp2_with fail
    go_ret
    exact ⟨_, rfl, HB1.out, by rw [HE.out]; exact HO1.out⟩
  | true =>
    have HE := Lib.hid (guards_yes hq)
    clear hq
    go_wp2_with fail
    go_loopw [7, 8] (fun ov iv wr => ∃ m : Nat, m ≤ 20 ∧ iv = .int .i64 ((m : Int) + 1) ∧ Hid (Below w.heap.size w wr) ∧ Hid (OwnI wr w.heap.size ov ((upto m).filter (fun g => !db (without l g) k n)))) (fun _ iv _ => 21 - (intOf iv).toNat)
    case atStart => exact ⟨0, Nat.zero_le _, rfl, HB1, HO1⟩
    case round =>
      clear HB1 HO1
      obtain ⟨m, hm, rfl, HB, HO⟩ := hrel
      obtain ⟨oa, oc, rfl⟩ := HO.out.shape
      by_cases hlt : m < 20
      · have hlt' : (m : Int) + 1 ≤ 20 := by omega
        have HS := Lib.hid (fupto_succ (p := fun g => !db (without l g) k n) (m := m))
        have HLN := Lib.hid (fupto_len (fun g => !db (without l g) k n) m)
        generalize (upto m).filter (fun g => !db (without l g) k n) = acc at *
        go_wp2_with fail
        refine (SW.out ((m : Int) + 1) wr (HV.out.below HB.out)).mono ?_
        rintro e w2 ⟨v2, rfl, hb, hx⟩
        have HB2 : Hid (Below w.heap.size w w2) := Lib.hid (HB.out.trans (hb.mono HB.out.size))
        have HO2 := Lib.hid (HO.out.below hb)
        have HE2 := Lib.hid (SE.out _ v2 w2 hx (HU.out.below HB2.out))
        obtain ⟨a2, c2, rfl, _⟩ := hx
        clear hb
        go_wp2_with fail
        refine HE2.out.mono ?_
        rintro e w3 ⟨rfl, hb⟩
        have HB3 : Hid (Below w.heap.size w w3) := Lib.hid (HB2.out.trans (hb.mono HB2.out.size))
        have HO3 := Lib.hid (HO2.out.below hb)
        clear hb
        cases hq : db (without l ((m : Int) + 1)) k n with
        | false =>
          have HS2 := Lib.hid (HS.out.1 (by rw [hq]; rfl))
          clear hq HS
          go_wp2_with (at_builtin; refine wpList_app_int _ rfl _ _ rfl w.heap.size _ acc rfl HO3.out _ _ _ rfl (by simp) ?c1 ?c2 ?_)
          case c1 => have := HLN.out; omega
          case c2 => exact HB3.out.size
          intro v' w4 ho hgr hbk
          have HB4 : Hid (Below w.heap.size w w4) := Lib.hid (OwnI.grown_below HB3.out HO3.out HB3.out.size hgr)
          have HO4 := Lib.hid ho
          clear ho hgr hbk
          go_wp2_with fail
          go_roundw
          case rel => exact ⟨m + 1, by omega, by go_num, HB4, by rw [HS2.out]; exact HO4⟩
          case measure => simp [intOf]; omega
        | true =>
          have HS2 := Lib.hid (HS.out.2 (by rw [hq]; rfl))
          clear hq HS
          go_wp2_with fail
          go_roundw
          case rel => exact ⟨m + 1, by omega, by go_num, HB3, by rw [HS2.out]; exact HO3⟩
          case measure => simp [intOf]; omega
      · have hlt' : ¬ (m : Int) + 1 ≤ 20 := by omega
        have HE2 : Hid ((upto m).filter (fun g => !db (without l g) k n) = guardsL l k n) := Lib.hid (by rw [show m = 20 by omega, HE.out])
        go_wp2_with fail
        go_ret
        exact ⟨_, rfl, HB.out, by rw [← HE2.out]; exact HO.out⟩

end Go.Proofs.Ytakfohcnclmkbab
