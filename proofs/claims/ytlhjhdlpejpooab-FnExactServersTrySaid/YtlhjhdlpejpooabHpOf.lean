/- The program's expiringOf and forgetBefore. -/
import Derived.Test.YtlhjhdlpejpooabHpAll
namespace Go.Proofs.Ytlhjhdlpejpooab
open Go.RowKit
set_option linter.unusedVariables false
set_option linter.unusedSimpArgs false

theorem heap_new (w : World) : Heap w.heap.size ((w.alloc (.cells #[] 38)).alloc (.cells #[.slice (some ⟨w.heap.size, 0, none⟩) 0 0] 71)) (w.heap.size + 1) [] := by
  have e1 : (w.alloc (.cells #[] 38)).heap.size = w.heap.size + 1 := by simp
  have U : Below (w.alloc (.cells #[] 38)).heap.size (w.alloc (.cells #[] 38)) ((w.alloc (.cells #[] 38)).alloc (.cells #[.slice (some ⟨w.heap.size, 0, none⟩) 0 0] 71)) := (Below.refl _ _).alloc (Nat.le_refl _) _
  have O : OwnTc (w.alloc (.cells #[] 38)) w.heap.size (.slice (some ⟨w.heap.size, 0, none⟩) 0 0) [] := own_new _ 2 w.heap.size w (Nat.le_refl _)
  refine ⟨fun c c0 c1 => by simp at c1, w.heap.size, 0, by omega, ?_, ?_, O.below U, fun e => by have := Option.some.inj e; simp only at this; omega⟩
  · rw [← e1, World.cell?_alloc_mark]; rfl
  · rw [← e1]; exact World.frozen?_alloc_at _ _ _ 0 rfl
theorem takeH (l : List Tic) (j : Nat) (h : j < l.length) : l.take (j + 1) = l.take j ++ [l.getD j (0, 0)] := by
  rw [List.getD_eq_getElem?_getD, List.getElem?_eq_getElem h, List.take_add_one, List.getElem?_eq_getElem h]; rfl

set_option maxRecDepth 100000 in
set_option maxHeartbeats 4000000 in
theorem heapof_any (v : Value) (l : List Tic) (w : World) (hs : Tics w v l) (hl : l.length ≤ 1048575) :
    Calls Try.prog 43 #[v] w fun e w' => ∃ b, e = .returned (.pointer (some ⟨b, 0, none⟩)) ∧ Below w.heap.size w w' ∧ ∃ l', l'.Perm l ∧ Heap w.heap.size w' b l' := by
  obtain ⟨a, c, rfl, hs⟩ := hs
  have HC := Lib.hid hs
  clear hs
  have H0 := Lib.hid (heap_new w)
  have B0 : Hid (Below w.heap.size w ((w.alloc (.cells #[] 38)).alloc (.cells #[.slice (some ⟨w.heap.size, 0, none⟩) 0 0] 71))) := Lib.hid (((Below.refl _ _).alloc (Nat.le_refl _) _).alloc (by simp) _)
  go_enter Try.func43, Try.ntmps43
  go_wp2_with fail
  generalize (w.alloc (.cells #[] 38)).alloc (.cells #[.slice (some ⟨w.heap.size, 0, none⟩) 0 0] 71) = W0 at H0 B0 ⊢
  generalize w.heap.size + 1 = b at H0 ⊢
  go_loopw [10] (fun iv wr => ∃ (j : Nat) (m : List Tic), j ≤ l.length ∧ iv = .int .i64 (j : Int) ∧ Hid (m.Perm (l.take j)) ∧ Hid (Heap w.heap.size wr b m) ∧ Hid (Below w.heap.size w wr)) (fun iv _ => l.length - (intOf iv).toNat)
  case atStart => exact ⟨0, [], Nat.zero_le _, rfl, Lib.hid (by simp), H0, B0⟩
  case round =>
    obtain ⟨j, m, hj, rfl, HP, HH, HB⟩ := hrel
    by_cases hlt : j < l.length
    · have hlt' : (j : Int) < (l.length : Int) := by omega
      obtain ⟨g, o, rfl, hc⟩ := HC.out (by rintro rfl; simp at hlt)
      obtain ⟨d0, d1⟩ := hc j hlt
      have hg := World.block_lt_of_cell? w _ d0
      have e0 := (HB.out.cell (p := ⟨g, o + j * 2, none⟩) hg).trans d0
      have e1 := (HB.out.cell (p := ⟨g, o + j * 2 + 1, none⟩) hg).trans d1
      clear d0 d1 hc hg
      have HTK := Lib.hid (takeH l j hlt)
      have HML : Hid (m.length = j) := Lib.hid (by rw [HP.out.length_eq, List.length_take]; omega)
      generalize l.getD j (0, 0) = t at *
      obtain ⟨x, y⟩ := t
      have U : Below wr.heap.size wr (wr.alloc (.cells #[.int .i64 x, .int .i64 y] 38)) := (Below.refl _ _).alloc (Nat.le_refl _) _
      have H1 := Lib.hid (HH.out.below U)
      have B1 := Lib.hid (HB.out.trans (U.mono HB.out.size))
      clear U
      have HC1 := Lib.hid (hpush_any b m x y w.heap.size _ H1.out (by have := HML.out; omega))
      go_wp2_with fail
      refine HC1.out.mono ?_
      rintro e w2 ⟨rfl, hb2, l', hp, H2⟩
      have B2 := Lib.hid (B1.out.trans hb2)
      have HP2 : Hid (l'.Perm (l.take (j + 1))) := Lib.hid (by rw [HTK.out]; exact hp.trans (HP.out.append_right _))
      have HH2 := Lib.hid H2
      clear hb2 hp H2 e0 e1
      go_wp2_with fail
      go_roundw
      case rel => exact ⟨j + 1, l', by omega, by go_num, HP2, HH2, B2⟩
      case measure => simp [intOf]; omega
    · have hlt' : ¬ (j : Int) < (l.length : Int) := by omega
      rw [List.take_of_length_le (by omega)] at HP
      go_wp2_with fail
      go_ret
      exact ⟨b, rfl, HB.out, m, HP.out, HH.out⟩

def lenAt (w : World) (b : Nat) : Nat := match w.cell? ⟨b, 0, none⟩ with
  | some (.slice _ n _) => n
  | _ => 0
theorem Heap.len {B : Nat} {W : World} {b : Nat} {l : List Tic} (h : Heap B W b l) : lenAt W b = l.length := by
  obtain ⟨_, g, c, H⟩ := h
  unfold lenAt
  rw [H.cell]
set_option maxRecDepth 100000 in
set_option maxHeartbeats 4000000 in
theorem forget_any (b : Nat) (l : List Tic) (p : Int) (B : Nat) (W : World) (h : Heap B W b l) (hl : l.length ≤ 1048575) :
    Calls Try.prog 44 #[.pointer (some ⟨b, 0, none⟩), .int .i64 p] W fun e w' => e = .returned (.tuple #[]) ∧ Below B W w' ∧ ∃ l', l'.Perm (l.filter fun x => decide (p ≤ x.2)) ∧ Heap B w' b l' := by
  have H0 := Lib.hid h
  clear h
  obtain ⟨L, hL⟩ : ∃ L, L = l.filter fun x => decide (p ≤ x.2) := ⟨_, rfl⟩
  have HL := Lib.hid hL
  rw [← hL]
  clear hL
  go_enter Try.func44, Try.ntmps44
  go_wp2_with fail
  go_loopw [] (fun wr => ∃ m : List Tic, m.length ≤ l.length ∧ Hid ((m.filter fun x => decide (p ≤ x.2)).Perm L) ∧ Hid (Heap B wr b m) ∧ Hid (Below B W wr)) (fun wr => lenAt wr b)
  case atStart => exact ⟨l, Nat.le_refl _, Lib.hid (by rw [HL.out]), H0, Below.refl _ _⟩
  case round =>
    obtain ⟨m, hml, HP, HH, HB⟩ := hrel
    have HB' : B ≤ W.heap.size := by obtain ⟨_, g, c, h⟩ := H0.out; have := h.lt; have := h.bb; omega
    have HLN := Lib.hid HH.out.len
    obtain ⟨hk, g, c, H⟩ := HH.out
    have HK := Lib.hid hk
    have HS := Lib.hid H
    have e0 := H.cell
    by_cases h0 : m.length = 0
    · have hm0 : m = [] := List.length_eq_zero_iff.1 h0
      have HD := Lib.hid (forget_done HP.out HK.out (.inl hm0))
      have hg : decide ((0 : Int) < (m.length : Int)) = false := decide_eq_false (by omega)
      have hg2 : ¬ (0 : Int) < (m.length : Int) := by omega
      have hg3 : ¬ 0 < m.length := by omega
      clear hk H hm0
      go_wp2_with fail
      refine (len_any _ _ _ _).mono ?_
      rintro e w2 ⟨rfl, rfl⟩
      go_wp2_with fail
      go_end0
      exact ⟨rfl, HB.out, m, HD.out, HH.out⟩
    · obtain ⟨k, hk1⟩ : ∃ k, m.length = k + 1 := ⟨m.length - 1, by omega⟩
      have hg : decide ((0 : Int) < (m.length : Int)) = true := decide_eq_true (by omega)
      have hg2 : (0 : Int) < (m.length : Int) := by omega
      have hg3 : 0 < m.length := by omega
      have c1 : wr.cell? ⟨g, 1, none⟩ = some (.int .i64 (kl m 0)) := (kl_cell H.own rfl 0 hg3).2
      have HK1 := Lib.hid hk1
      clear hk H hk1 h0
      by_cases hlt : kl m 0 < p
      · have HO := Lib.hid (hpop_any b k m B wr HH.out HK1.out (by omega))
        have hd := decide_eq_true hlt
        have HLT : Hid ((m.getD 0 (0, 0)).2 < p) := Lib.hid hlt
        generalize kl m 0 = y at c1 hd hlt
        go_wp2_with fail
        refine (len_any _ _ _ _).mono ?_
        rintro e w2 ⟨rfl, rfl⟩
        go_wp2_with fail
        refine HO.out.mono ?_
        rintro e w3 ⟨⟨v, rfl⟩, hb3, l', hp, hlen, H3⟩
        have HB3 := Lib.hid (HB.out.trans hb3)
        have HP3 := Lib.hid (forget_step HP.out hp HLT.out)
        have H4 := Lib.hid H3
        have HL4 : Hid (lenAt w3 b < lenAt wr b) := Lib.hid (by rw [H3.len, HLN.out, HK1.out]; omega)
        have hl4 : l'.length ≤ l.length := by have := HK1.out; omega
        clear hb3 hp H3
        go_wp2_with fail
        go_roundw
        case rel => exact ⟨l', hl4, HP3, H4, HB3⟩
        case measure => exact HL4.out
      · have HD := Lib.hid (forget_done HP.out HK.out (.inr (by omega)))
        have hd := decide_eq_false hlt
        generalize kl m 0 = y at c1 hd hlt
        go_wp2_with fail
        refine (len_any _ _ _ _).mono ?_
        rintro e w2 ⟨rfl, rfl⟩
        go_wp2_with fail
        go_end0
        exact ⟨rfl, HB.out, m, HD.out, HH.out⟩

end Go.Proofs.Ytlhjhdlpejpooab
