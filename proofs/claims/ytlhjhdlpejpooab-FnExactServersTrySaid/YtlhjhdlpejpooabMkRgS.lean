/- markTicketS, heldTicketS from any number on; markRegisterS and heldRegisterS: what is written, and that it is found again. -/
import Derived.Test.YtlhjhdlpejpooabAppTc
import Derived.Test.YtlhjhdlpejpooabToRgS
namespace Go.Proofs.Ytlhjhdlpejpooab
open Go.RowKit
set_option linter.unusedVariables false
set_option linter.unusedSimpArgs false

theorem tcells_app4 (l m : List (Int × Int)) : tcells (l ++ m) = tcells l ++ tcells m := by simp [tcells]
/-- (k, k + 1), (k + 2, k + 3), .. -/
def tmk (s : Int) (n : Nat) : List (Int × Int) := (List.range n).map (fun (i : Nat) => (s + 2 * (i : Int), s + 2 * (i : Int) + 1))
theorem tmk_len (s : Int) (n : Nat) : (tmk s n).length = n := by simp [tmk]
theorem tmk_at (s : Int) (n i : Nat) (h : i < n) : (tmk s n).getD i (0, 0) = (s + 2 * (i : Int), s + 2 * (i : Int) + 1) := by
  simp [tmk, List.getD_eq_getElem?_getD, List.getElem?_map, List.getElem?_range h]
def tmj (s : Int) (j : Nat) (l : List (Int × Int)) : List (Int × Int) := tmk s j ++ l.drop j
theorem tmj_len (s : Int) (j : Nat) (l : List (Int × Int)) (h : j ≤ l.length) : (tmj s j l).length = l.length := by simp [tmj, tmk_len]; omega
theorem tmj_zero (s : Int) (l : List (Int × Int)) : tmj s 0 l = l := by simp [tmj, tmk]
theorem tmj_all (s : Int) (l : List (Int × Int)) : tmj s l.length l = tmk s l.length := by simp [tmj]
theorem tmj_step (s : Int) (j : Nat) (l : List (Int × Int)) (h : j < l.length) : ((tcells (tmj s j l)).set (j * 2) (.int .i64 (s + 2 * (j : Int)))).set (j * 2 + 1) (.int .i64 (s + 2 * (j : Int) + 1)) = tcells (tmj s (j + 1) l) := by
  have e : tmk s (j + 1) = tmk s j ++ [(s + 2 * (j : Int), s + 2 * (j : Int) + 1)] := by simp [tmk, List.range_succ]
  have d : l.drop j = l[j] :: l.drop (j + 1) := List.drop_eq_getElem_cons h
  have hl : (tcells (tmk s j)).length = j * 2 := by rw [tcells_len, tmk_len]
  unfold tmj
  rw [e, d, tcells_app4, tcells_app4, tcells_app4]
  have e1 : tcells (l[j] :: l.drop (j + 1)) = .int .i64 l[j].1 :: .int .i64 l[j].2 :: tcells (l.drop (j + 1)) := rfl
  have e2 : tcells [((s + 2 * (j : Int), s + 2 * (j : Int) + 1) : Int × Int)] = [.int .i64 (s + 2 * (j : Int)), .int .i64 (s + 2 * (j : Int) + 1)] := by simp [tcells]
  rw [e1, e2, List.set_append_right _ _ (by omega), hl, Nat.sub_self, List.set_cons_zero, List.set_append_right _ _ (by omega), hl, show j * 2 + 1 - j * 2 = 1 by omega, List.set_cons_succ, List.set_cons_zero, List.append_assoc]
  rfl

set_option maxRecDepth 100000 in
set_option maxHeartbeats 1000000 in
theorem marks_any (s : Int) (v : Value) (l : List (Int × Int)) (B : Nat) (w : World) (h : OwnTc w B v l) (hx : l.length ≤ 1048576) (hs0 : 0 ≤ s) (hs9 : s ≤ 4398046511104) :
    Calls Try.prog 48 #[v, .int .i64 s] w fun e w' => e = .returned (.int .i64 (s + 2 * (l.length : Int))) ∧ w.grownBy w' v.ownBlock ∧ OwnTc w' B v (tmk s l.length) := by
  by_cases h0 : l = []
  · subst h0
    obtain ⟨a, c, rfl⟩ := ownsRow_shape h
    have H := Lib.hid h
    clear h
    go_enter Try.func48, Try.ntmps48
    go_wp2_with fail
    refine wp_loop_rounds 1 ?_
    rw [rounds_succ]
    go_wp2_with fail
    go_ret
    exact ⟨ret_int (by simp), World.grownBy.refl _ _, by simpa [tmk] using H.out⟩
  · obtain ⟨g, c, rfl, hgB⟩ : ∃ g c, v = .slice (some ⟨g, 0, none⟩) l.length c ∧ B ≤ g := by
      obtain ⟨_, h' | ⟨g, c, cur, h', hb, _⟩⟩ := id h
      · exact absurd (List.length_eq_zero_iff.1 h'.2) h0
      · exact ⟨g, c, h', hb⟩
    have H := Lib.hid h
    clear h h0
    go_enter Try.func48, Try.ntmps48
    go_wp2_with fail
    go_loopw [1, 5] (fun kv iv wr => ∃ j : Nat, j ≤ l.length ∧ kv = .int .i64 (s + 2 * (j : Int)) ∧ iv = .int .i64 j ∧ Hid (w.grownBy wr (some g)) ∧ Hid (OwnTc wr B (.slice (some ⟨g, 0, none⟩) l.length c) (tmj s j l))) (fun _ iv _ => l.length - (intOf iv).toNat)
    case atStart => exact ⟨0, Nat.zero_le _, by simp, rfl, World.grownBy.refl _ _, by show OwnTc _ _ _ _; rw [tmj_zero]; exact H.out⟩
    case round =>
      obtain ⟨j, hj, rfl, rfl, HG, HO⟩ := hrel
      by_cases hlt : j < l.length
      · have hlt' : (j : Int) < (l.length : Int) := by omega
        have ho3 := HO.out
        unfold OwnTc at ho3
        rw [tmj_len s j l hj] at ho3
        have hf0 := ho3.frozenAt (j * 2)
        have hf1 := ho3.frozenAt (j * 2 + 1)
        have hc0 := ho3.cellAt (j * 2) (by omega)
        have hc1 := ho3.cellAt (j * 2 + 1) (by omega)
        obtain ⟨r1, r2⟩ := tcells_at (tmj s j l) j (by rw [tmj_len s j l hj]; exact hlt)
        rw [r1] at hc0
        rw [r2] at hc1
        generalize ((tmj s j l).getD j (0, 0)).1 = u1 at hc0
        generalize ((tmj s j l).getD j (0, 0)).2 = u2 at hc1
        obtain ⟨st, sg⟩ := ho3.stored (j * 2) (.int .i64 (s + 2 * (j : Int)))
        obtain ⟨st2, sg2⟩ := st.stored (j * 2 + 1) (.int .i64 (s + 2 * (j : Int) + 1))
        rw [tmj_step s j l hlt] at st2
        have ST := Lib.hid st2
        have SG := Lib.hid ((HG.out.trans sg).trans sg2)
        clear st st2 sg sg2 ho3 r1 r2
        go_wp2_with fail
        go_roundw
        case rel => exact ⟨j + 1, by omega, (by first | go_num | (congr 1; omega)), by go_num, SG.out, by show OwnTc _ _ _ _; unfold OwnTc; rw [tmj_len s (j + 1) l (by omega)]; exact ST.out⟩
        case measure => simp [intOf]; omega
      · have he : j = l.length := by omega
        have HE := Lib.hid he
        have HO2 := Lib.hid (show OwnTc wr B (.slice (some ⟨g, 0, none⟩) l.length c) (tmk s l.length) by have := HO.out; rw [he, tmj_all] at this; exact this)
        clear he
        go_wp2_with fail
        go_ret
        exact ⟨ret_int (by rw [HE.out]), HG.out, HO2.out⟩

set_option maxRecDepth 100000 in
set_option maxHeartbeats 1000000 in
theorem helds_any (s : Int) (v : Value) (n : Nat) (w : World) (h : Tics w v (tmk s n)) (hx : n ≤ 1048576) (hs0 : 0 ≤ s) (hs9 : s ≤ 4398046511104) :
    Calls Try.prog 49 #[v, .int .i64 s] w fun e w' => e = .returned (.int .i64 (s + 2 * (n : Int))) ∧ w = w' := by
  obtain ⟨a, c, rfl, h⟩ := h
  rw [tmk_len]
  have HC := Lib.hid h
  clear h
  go_enter Try.func49, Try.ntmps49
  go_wp2_with fail
  go_loopw [1, 5] (fun kv iv wr => ∃ j : Nat, j ≤ n ∧ kv = .int .i64 (s + 2 * (j : Int)) ∧ iv = .int .i64 j ∧ w = wr) (fun _ iv _ => n - (intOf iv).toNat)
  case atStart => exact ⟨0, Nat.zero_le _, by simp, rfl, rfl⟩
  case round =>
    obtain ⟨j, hj, rfl, rfl, rfl⟩ := hrel
    by_cases hlt : j < n
    · have hlt' : (j : Int) < (n : Int) := by omega
      obtain ⟨g, o, rfl, hc⟩ := HC.out (by intro e; have := tmk_len s n; rw [e] at this; simp at this; omega)
      obtain ⟨e1, e2⟩ := hc j (by rw [tmk_len]; exact hlt)
      rw [tmk_at s n j hlt] at e1 e2
      have n1 : ((s + 2 * (j : Int)) != (s + 2 * (j : Int))) = false := by simp
      have n2 : ((s + 2 * (j : Int) + 1) != (s + 2 * (j : Int) + 1)) = false := by simp
      clear hc
      go_wp2_with fail
      go_roundw
      case rel => exact ⟨j + 1, by omega, (by first | go_num | (congr 1; omega)), by go_num, (by first | rfl | trivial)⟩
      case measure => simp [intOf]; omega
    · have he : j = n := by omega
      have HE := Lib.hid he
      clear he
      go_wp2_with fail
      go_ret
      exact ⟨ret_int (by rw [HE.out]), rfl⟩

/-- The number at which entry i begins; what it holds behind the marks. -/
def kAt (R : Nat → Reg) : Nat → Int
  | 0 => 1
  | i + 1 => kAt R i + 1 + 2 * ((R i).2.length : Int)
def mkR (R : Nat → Reg) (i : Nat) : Reg := (kAt R i, tmk (kAt R i + 1) (R i).2.length)
def midR (R : Nat → Reg) (j : Nat) (i : Nat) : Reg := if i < j then mkR R i else R i
theorem kAt_bd (R : Nat → Reg) (n : Nat) (h : ∀ i, i < n → (R i).2.length ≤ 1048576) : ∀ j, j ≤ n → 1 ≤ kAt R j ∧ kAt R j ≤ 1 + 2097153 * (j : Int)
  | 0, _ => by unfold kAt; omega
  | j + 1, hj => by
    have ih := kAt_bd R n h j (by omega)
    have hl := h j (by omega)
    unfold kAt
    omega
theorem ToG.now {w : World} {B n j : Nat} {f : Nat → Value} {R : Nat → Reg} (h : ToG w B n f R n) (hj : j < n) (K : Int) :
    ToG (w.setCell ⟨B, j * 2, none⟩ (.int .i64 K)) B n f (fun i => if i = j then (K, (R j).2) else R i) n := by
  refine ⟨h.wr.set _ _, fun i hi => ?_, h.ap⟩
  obtain ⟨a0, a1, a2⟩ := h.tb i hi
  by_cases e : i = j
  · subst e
    simp only [if_pos]
    exact ⟨World.cell?_setCell_same _ _ _ a0, (World.cell?_setCell_other _ _ _ _ (by intro e; injection e with e1 e2 e3; omega)).trans a1, OwnTc.far a2 (own_notB a2)⟩
  · simp only [if_neg e]
    exact (h.tb i hi).set (by omega) (by omega) _
theorem ToG.row {w w' : World} {B n j : Nat} {f : Nat → Value} {R : Nat → Reg} {M : List Tic} (h : ToG w B n f R n) (hj : j < n) (hg : w.grownBy w' (f j).ownBlock) (ho : OwnTc w' (B + 1) (f j) M) :
    ToG w' B n f (fun i => if i = j then ((R j).1, M) else R i) n := by
  have hB : some B ≠ (f j).ownBlock := fun e => own_notB (h.tb j hj).2.2 e.symm
  refine ⟨fun k hk => ?_, fun i hi => ?_, h.ap⟩
  · obtain ⟨⟨u, hu⟩, hf⟩ := h.wr k hk
    have hl : B < w.heap.size := World.block_lt_of_cell? w _ hu
    exact ⟨⟨u, (World.grownBy.cell_far hg ⟨B, k, none⟩ hl hB).trans hu⟩, (World.grownBy.frozen_far hg ⟨B, k, none⟩ hl hB).trans hf⟩
  · obtain ⟨a0, a1, a2⟩ := h.tb i hi
    by_cases e : i = j
    · subst e
      simp only [if_pos]
      exact ⟨hg.cell a0 hB, hg.cell a1 hB, ho⟩
    · simp only [if_neg e]
      refine ⟨hg.cell a0 hB, hg.cell a1 hB, World.ownsRow.kept a2 hg ?_⟩
      rcases (by omega : i < j ∨ j < i) with h1 | h1
      · exact h.ap i j h1 hj
      · rcases h.ap j i h1 hi with h2 | h2
        · cases hq : (f i).ownBlock with
          | none => exact .inl rfl
          | some q => exact .inr (by rw [h2]; simp)
        · exact .inr (fun e => h2 e.symm)
theorem midR_step (R : Nat → Reg) (j : Nat) : (fun i => if i = j then (kAt R j, tmk (kAt R j + 1) (R j).2.length) else (fun i => if i = j then (kAt R j, (midR R j j).2) else midR R j i) i) = midR R (j + 1) := by
  funext i
  unfold midR
  by_cases e : i = j
  · subst e; rw [if_pos rfl, if_pos (by omega)]; rfl
  · simp only [if_neg e]
    by_cases h : i < j
    · rw [if_pos h, if_pos (by omega)]
    · rw [if_neg h, if_neg (by omega)]
theorem ToG.congr {w : World} {B n : Nat} {f : Nat → Value} {R R' : Nat → Reg} (h : ToG w B n f R n) (e : ∀ i, i < n → R' i = R i) : ToG w B n f R' n := h.weak (Nat.le_refl _) e

/-- Of what was there only blocks from B to T were written. -/
structure Spn (B T : Nat) (w w' : World) : Prop where
  os : w'.os = w.os
  tape : w'.tape = w.tape
  output : w'.output = w.output
  size : w.heap.size ≤ w'.heap.size
  block : ∀ k, k < w.heap.size → (k < B ∨ T ≤ k) → w'.heap[k]? = w.heap[k]?
theorem Spn.refl (B T : Nat) (w : World) : Spn B T w w := ⟨rfl, rfl, rfl, Nat.le_refl _, fun _ _ _ => rfl⟩
theorem Spn.grown {B T : Nat} {a w w' : World} {row : Option Nat} (h : Spn B T a w) (hg : w.grownBy w' row) (hr : ∀ k, row = some k → B ≤ k ∧ k < T) : Spn B T a w' :=
  ⟨hg.os.trans h.os, hg.tape.trans h.tape, hg.output.trans h.output, Nat.le_trans h.size hg.size, fun k hk hb => (hg.block k (Nat.lt_of_lt_of_le hk h.size) (fun e => by have := hr k e.symm; omega)).trans (h.block k hk hb)⟩
theorem Spn.set {B T : Nat} {a w : World} (h : Spn B T a w) {c : Nat} (hc : B ≤ c ∧ c < T) (i : Nat) (v : Value) : Spn B T a (w.setCell ⟨c, i, none⟩ v) :=
  ⟨h.os, h.tape, h.output, by simpa [World.setCell] using h.size, fun k hk hb => (Below.heap_setCell _ _ _ _ (by show k ≠ c; omega)).trans (h.block k hk hb)⟩
theorem Spn.below {B T : Nat} {w w' : World} (h : Spn B T w w') (hB : B ≤ w.heap.size) : Below B w w' := ⟨h.os, h.tape, h.output, h.size, fun k hk => h.block k (by omega) (.inl hk)⟩
theorem OwnTc.slf {w : World} {B : Nat} {v : Value} {l : List Tic} (h : OwnTc w B v l) : ∃ a c, v = .slice a l.length c := ownsRow_shape h

set_option maxRecDepth 100000 in
set_option maxHeartbeats 4000000 in
theorem mkrs_any (B c n T : Nat) (f : Nat → Value) (R : Nat → Reg) (w : World) (h : ToG w B n f R n) (hn : n ≤ 1048576) (hlen : ∀ i, i < n → (R i).2.length ≤ 1048576) (hB : B < T) (hT : ∀ i, i < n → ∀ q, (f i).ownBlock = some q → q < T) :
    Calls Try.prog 25 #[.slice (some ⟨B, 0, none⟩) n c, .int .i64 1] w fun e w' => e = .returned (.int .i64 (kAt R n)) ∧ ToG w' B n f (mkR R) n ∧ Spn B T w w' := by
  have HG := Lib.hid h
  have HLN := Lib.hid hlen
  have HTT := Lib.hid hT
  have KB := Lib.hid (kAt_bd R n hlen)
  clear h hlen hT
  go_enter Try.func25, Try.ntmps25
  go_wp2_with fail
  go_loopw [1, 5] (fun kv iv wr => ∃ (j : Nat) (K : Int), j ≤ n ∧ kv = .int .i64 K ∧ iv = .int .i64 (j : Int) ∧ Hid (K = kAt R j) ∧ Hid (ToG wr B n f (midR R j) n) ∧ Hid (Spn B T w wr)) (fun _ iv _ => n - (intOf iv).toNat)
  case atStart => exact ⟨0, 1, Nat.zero_le _, rfl, rfl, rfl, HG.out.congr (fun i hi => by unfold midR; rw [if_neg (by omega)]), Spn.refl _ _ _⟩
  case round =>
    clear HG
    obtain ⟨j, K, hj, rfl, rfl, HK, HG, HS⟩ := hrel
    have hKb := KB.out j hj
    rw [← HK.out] at hKb
    obtain ⟨hK1, hK2⟩ := hKb
    have hK3 : K ≤ 4398046511103 := by omega
    by_cases hlt : j < n
    · have hlt' : (j : Int) < (n : Int) := by omega
      have hbd := HLN.out j hlt
      obtain ⟨a0, a1, a2⟩ := HG.out.tb j hlt
      obtain ⟨⟨u0, d0⟩, t0⟩ := HG.out.wr (j * 2) (by omega)
      have HG1 := Lib.hid (HG.out.now hlt K)
      have HS1 := Lib.hid (HS.out.set (c := B) ⟨Nat.le_refl _, hB⟩ (j * 2) (.int .i64 K))
      obtain ⟨s, hs⟩ : ∃ s, f j = s := ⟨_, rfl⟩
      have e2 : (midR R j j).2 = (R j).2 := by unfold midR; rw [if_neg (by omega)]
      obtain ⟨b0, b1, b2⟩ := HG1.out.tb j hlt
      simp only [if_pos] at b0 b1 b2
      rw [hs] at b1 b2
      rw [e2] at b2
      obtain ⟨sa, sc, hsv⟩ := OwnTc.slf b2
      have HW := Lib.hid (marks_any (K + 1) s _ (B + 1) _ b2 hbd (by omega) (by omega))
      have HFS := Lib.hid hs
      have HL := Lib.hid (show kAt R (j + 1) = K + 1 + 2 * ((R j).2.length : Int) by show kAt R j + 1 + 2 * ((R j).2.length : Int) = _; rw [HK.out])
      have hv2 : IntKind.i64.wrap (K + 1) = K + 1 := IntWalk.i64_in _ (by omega)
      subst hsv
      generalize (R j).2.length = len at b2 HW HL b1 hbd HFS
      clear a0 a1 a2 e2 b0 b2 hs
      go_wp2_with fail
      refine HW.out.mono ?_
      rintro e w3 ⟨rfl, hg3, ho3⟩
      have HG3 : Hid (ToG w3 B n f (midR R (j + 1)) n) := Lib.hid (by
        have k := HG1.out.row hlt (by rw [HFS.out]; exact hg3) (by rw [HFS.out]; exact ho3)
        refine k.congr (fun i hi => ?_)
        by_cases e : i = j
        · subst e
          simp only [if_pos]
          unfold midR
          rw [if_pos (by omega)]
          unfold mkR
          rw [← HK.out]
          congr 1
          have := HL.out
          have h2 : kAt R (i + 1) = kAt R i + 1 + 2 * ((R i).2.length : Int) := rfl
          rw [h2, ← HK.out] at this
          have h3 : (R i).2.length = len := by omega
          rw [h3]
        · simp only [if_neg e]
          unfold midR
          by_cases h : i < j
          · rw [if_pos h, if_pos (by omega)]
          · rw [if_neg h, if_neg (by omega)])
      have HS3 := Lib.hid (HS1.out.grown hg3 (fun q hq => ⟨by have := (World.ownsRow.lt ho3 q hq).1; omega, HTT.out j hlt q (by rw [HFS.out]; exact hq)⟩))
      clear hg3 ho3 d0 t0 b1 hv2
      have HL2 := Lib.hid HL.out.symm
      go_wp2_with fail
      go_roundw
      case rel => exact ⟨j + 1, K + 1 + 2 * (len : Int), by omega, rfl, by go_num, HL2, HG3, HS3⟩
      case measure => simp [intOf]; omega
    · have he : j = n := by omega
      have hlt' : ¬ (j : Int) < (n : Int) := by omega
      have HE := Lib.hid he
      have HG2 := Lib.hid (HG.out.congr (R' := mkR R) (fun i hi => by unfold midR; rw [if_pos (by omega)]))
      clear he
      go_wp2_with fail
      go_ret
      exact ⟨ret_int (by rw [HK.out, HE.out]), HG2.out, HS.out⟩

set_option maxRecDepth 100000 in
set_option maxHeartbeats 4000000 in
theorem hdrs_any (B c n : Nat) (f : Nat → Value) (R : Nat → Reg) (w : World) (h : ToG w B n f (mkR R) n) (hn : n ≤ 1048576) (hlen : ∀ i, i < n → (R i).2.length ≤ 1048576) :
    Calls Try.prog 26 #[.slice (some ⟨B, 0, none⟩) n c, .int .i64 1] w fun e w' => e = .returned (.int .i64 (kAt R n)) ∧ w = w' := by
  have HG := Lib.hid h
  have HLN := Lib.hid hlen
  have KB := Lib.hid (kAt_bd R n hlen)
  clear h hlen
  go_enter Try.func26, Try.ntmps26
  go_wp2_with fail
  go_loopw [1, 5] (fun kv iv wr => ∃ (j : Nat) (K : Int), j ≤ n ∧ kv = .int .i64 K ∧ iv = .int .i64 (j : Int) ∧ Hid (K = kAt R j) ∧ w = wr) (fun _ iv _ => n - (intOf iv).toNat)
  case atStart => exact ⟨0, 1, Nat.zero_le _, rfl, rfl, rfl, rfl⟩
  case round =>
    obtain ⟨j, K, hj, rfl, rfl, HK, rfl⟩ := hrel
    have hKb := KB.out j hj
    rw [← HK.out] at hKb
    obtain ⟨hK1, hK2⟩ := hKb
    have hK3 : K ≤ 4398046511103 := by omega
    by_cases hlt : j < n
    · have hlt' : (j : Int) < (n : Int) := by omega
      have hbd := HLN.out j hlt
      obtain ⟨a0, a1, a2⟩ := HG.out.tb j hlt
      obtain ⟨s, hs⟩ : ∃ s, f j = s := ⟨_, rfl⟩
      rw [hs] at a1 a2
      have HL := Lib.hid (show kAt R (j + 1) = K + 1 + 2 * ((R j).2.length : Int) by show kAt R j + 1 + 2 * ((R j).2.length : Int) = _; rw [HK.out])
      unfold mkR at a0 a2
      rw [← HK.out] at a0 a2
      simp only at a0 a2
      obtain ⟨sa, sc, hsv⟩ := OwnTc.slf a2
      rw [tmk_len] at hsv
      have HW := Lib.hid (helds_any (K + 1) s (R j).2.length w (Tics.of_own a2) hbd (by omega) (by omega))
      have hv2 : IntKind.i64.wrap (K + 1) = K + 1 := IntWalk.i64_in _ (by omega)
      have hnn : (K != K) = false := by simp
      subst hsv
      generalize (R j).2.length = len at a1 HW HL hbd
      have hz : ¬ (K + 1 + 2 * (len : Int)) < 0 := by omega
      clear a2 hs
      go_wp2_with fail
      refine HW.out.mono ?_
      rintro e w3 ⟨rfl, rfl⟩
      have HL2 := Lib.hid HL.out.symm
      go_wp2_with fail
      go_roundw
      case rel => exact ⟨j + 1, K + 1 + 2 * (len : Int), by omega, rfl, by go_num, HL2, (by first | rfl | trivial)⟩
      case measure => simp [intOf]; omega
    · have he : j = n := by omega
      have hlt' : ¬ (j : Int) < (n : Int) := by omega
      have HE := Lib.hid he
      clear he
      go_wp2_with fail
      go_ret
      exact ⟨ret_int (by rw [HK.out, HE.out]), rfl⟩

end Go.Proofs.Ytlhjhdlpejpooab
