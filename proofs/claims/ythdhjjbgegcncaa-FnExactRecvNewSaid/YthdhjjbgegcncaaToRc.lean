/- szPiece, szPieceS, szRecv; toPiece, toPieceS, toRecv. -/
import Derived.Test.YthdhjjbgegcncaaPcn
import Derived.Test.YthdhjjbgegcncaaRcH
import Derived.Laws.OwnMore
import Derived.Lib.BufferOwn
import Derived.Deep.CutBlock
namespace Go.Proofs.Ythdhjjbgegcncaa
open Go.RowKit
set_option linter.unusedVariables false
set_option linter.unusedSimpArgs false

/-- What is left of the allowance. -/
def SzP (w : World) (l : List Pc) (e : Ending) (w' : World) : Prop := ∃ n : Int, e = .returned (.int .i64 n) ∧ Below w.heap.size w w' ∧ (n = -1 ∨ (0 ≤ n ∧ l.length ≤ 1048576 ∧ ∀ p ∈ l, p.2.size ≤ 1048576))
theorem take_gt (l : List Pc) (k : Nat) (h : k < l.length) : l.take (k + 1) = l.take k ++ [l.getD k pc0] ∧ l.getD k pc0 ∈ l := by
  rw [List.getD_eq_getElem?_getD, List.getElem?_eq_getElem h, List.take_add_one, List.getElem?_eq_getElem h]
  exact ⟨rfl, List.getElem_mem h⟩
set_option maxRecDepth 100000 in
set_option maxHeartbeats 1000000 in
theorem szpc_any (x : Int) (d : ByteArray) (left : Int) (w : World) (h0 : 0 ≤ left) (h1 : left ≤ 1048576) (hd : d.size ≤ 9223372036854775807) :
    Calls Try.prog 51 #[.agg #[.int .i64 x, .string d], .int .i64 left] w fun e w' => e = .returned (.int .i64 (if left < (d.size : Int) then -1 else left - (d.size : Int))) ∧ Below w.heap.size w w' := by
  have v1 : IntKind.i64.wrap (left - (d.size : Int)) = left - (d.size : Int) := IntWalk.i64_in _ (by omega)
  by_cases h : left < (d.size : Int)
  · rw [if_pos h]
    have hd : left - (d.size : Int) < 0 := by omega
    go_enter Try.func51, Try.ntmps51
    go_wp2_with fail
    go_ret
    exact ⟨rfl, (Below.refl _ _).alloc (Nat.le_refl _) _⟩
  · rw [if_neg h]
    have hd : ¬ left - (d.size : Int) < 0 := by omega
    go_enter Try.func51, Try.ntmps51
    go_wp2_with fail
    go_ret
    exact ⟨rfl, (Below.refl _ _).alloc (Nat.le_refl _) _⟩
set_option maxRecDepth 100000 in
set_option maxHeartbeats 2000000 in
theorem szpcs_any (v : Value) (l : List Pc) (left : Int) (w : World) (h : Pcn w v l) (h0 : 0 ≤ left) (h1 : left ≤ 1048576) (hl : l.length ≤ 9223372036854775807) (hs : ∀ p ∈ l, p.2.size ≤ 9223372036854775807) :
    Calls Try.prog 34 #[v, .int .i64 left] w (SzP w l) := by
  have H := Lib.hid h
  have HS := Lib.hid hs
  obtain ⟨a, c, rfl, _⟩ := h
  clear hs
  have v1 : IntKind.i64.wrap (left - (l.length : Int)) = left - (l.length : Int) := IntWalk.i64_in _ (by omega)
  by_cases hneg : left - (l.length : Int) < 0
  · go_enter Try.func34, Try.ntmps34
    go_wp2_with fail
    go_ret
    exact ⟨-1, rfl, Below.refl _ _, .inl rfl⟩
  go_enter Try.func34, Try.ntmps34
  go_wp2_with fail
  go_loopw [1, 5] (fun kv iv wr => ∃ (j : Nat) (n : Int), j ≤ l.length ∧ iv = .int .i64 (j : Int) ∧ kv = .int .i64 n ∧ (0 ≤ n ∧ n ≤ 1048576) ∧ Hid (∀ p ∈ l.take j, p.2.size ≤ 1048576) ∧ Hid (Below w.heap.size w wr)) (fun _ iv _ => l.length - (intOf iv).toNat)
  case atStart => exact ⟨0, left - (l.length : Int), Nat.zero_le _, rfl, rfl, by omega, Lib.hid (fun p hp => by simp at hp), Below.refl _ _⟩
  case round =>
    obtain ⟨j, n, hj, rfl, rfl, hn, HT, HB⟩ := hrel
    by_cases hlt : j < l.length
    · have hlt' : (j : Int) < (l.length : Int) := by omega
      obtain ⟨_, _, e0, hc0⟩ := H.out
      injection e0 with e1 e2 e3
      obtain ⟨g, o, e4, hc⟩ := hc0 (by rintro rfl; simp at hlt)
      clear hc0
      subst e1 e3 e4
      have c0 := (HB.out.cell (World.block_lt_of_cell? w _ (hc j hlt).1)).trans (hc j hlt).1
      have c1 := (HB.out.cell (World.block_lt_of_cell? w _ (hc j hlt).2)).trans (hc j hlt).2
      have HK := Lib.hid (take_gt l j hlt)
      have hsz := HS.out _ HK.out.2
      clear hc e2
      generalize l.getD j pc0 = p at *
      obtain ⟨x, d⟩ := p
      simp only at c0 c1 hsz
      have HZ := Lib.hid (fun W => szpc_any x d n W hn.1 hn.2 hsz)
      by_cases hd : n < (d.size : Int)
      · rw [if_pos hd] at HZ
        clear hd
        go_wp2_with fail
        refine (HZ.out _).mono ?_
        rintro e w1 ⟨rfl, hb1⟩
        have HB1 := Lib.hid (HB.out.trans (hb1.mono HB.out.size))
        clear hb1
        go_wp2_with fail
        go_ret
        exact ⟨-1, rfl, HB1.out, .inl rfl⟩
      · rw [if_neg hd] at HZ
        have hz0 : ¬ n - (d.size : Int) < 0 := by omega
        have HT2 : Hid (∀ p ∈ l.take (j + 1), p.2.size ≤ 1048576) := Lib.hid (fun p hp => by
          rw [HK.out.1] at hp
          rcases List.mem_append.1 hp with hp | hp
          · exact HT.out p hp
          · have : p = (x, d) := by simpa using hp
            subst this; simp only; omega)
        clear hd
        go_wp2_with fail
        refine (HZ.out _).mono ?_
        rintro e w1 ⟨rfl, hb1⟩
        have HB1 := Lib.hid (HB.out.trans (hb1.mono HB.out.size))
        clear hb1
        go_wp2_with fail
        go_roundw
        case rel => exact ⟨j + 1, _, by omega, by go_num, rfl, by omega, HT2, HB1⟩
        case measure => simp [intOf]; omega
    · have hlt' : ¬ (j : Int) < (l.length : Int) := by omega
      have HT2 : Hid (∀ p ∈ l, p.2.size ≤ 1048576) := Lib.hid (by have := HT.out; rw [List.take_of_length_le (by omega)] at this; exact this)
      go_wp2_with fail
      go_ret
      exact ⟨n, rfl, HB.out, .inr ⟨hn.1, by omega, HT2.out⟩⟩
set_option maxRecDepth 100000 in
set_option maxHeartbeats 1000000 in
theorem szrc_any (v : Value) (l : List Pc) (rd fi li : Int) (left : Int) (w : World) (h : Pcn w v l) (h0 : 0 ≤ left) (h1 : left ≤ 1048576) (hl : l.length ≤ 9223372036854775807) (hs : ∀ p ∈ l, p.2.size ≤ 9223372036854775807) :
    Calls Try.prog 15 #[.agg #[.int .i64 rd, v, .int .i64 fi, .int .i64 li], .int .i64 left] w (SzP w l) := by
  have B0 := Lib.hid ((Below.refl w.heap.size w).alloc (Nat.le_refl _) (.cells #[.int .i64 rd, v, .int .i64 fi, .int .i64 li] 32))
  have HZ := Lib.hid (szpcs_any v l left _ (h.below B0.out) h0 h1 hl hs)
  obtain ⟨a, c, rfl, _⟩ := h
  clear hs
  go_enter Try.func15, Try.ntmps15
  go_wp2_with fail
  refine HZ.out.mono ?_
  rintro e w1 ⟨n, rfl, hb, hc⟩
  have B1 := Lib.hid (B0.out.trans (hb.mono B0.out.size))
  clear hb HZ
  rcases hc with rfl | ⟨h2, h3, h4⟩
  · go_wp2_with fail
    go_ret
    exact ⟨-1, rfl, B1.out, .inl rfl⟩
  · have HX := Lib.hid h4
    have hn0 : ¬ n < 0 := by omega
    clear h4
    go_wp2_with fail
    go_ret
    exact ⟨n, rfl, B1.out, .inr ⟨h2, h3, HX.out⟩⟩
end Go.Proofs.Ythdhjjbgegcncaa
