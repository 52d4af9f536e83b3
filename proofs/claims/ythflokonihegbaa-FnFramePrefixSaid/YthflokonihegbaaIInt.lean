/- The program's encodeIntegers, encodeData, encodeRanges. -/
import Derived.Test.YthflokonihegbaaIVar
import Derived.Test.YthflokonihegbaaBld
import Derived.Test.YthflokonihegbaaLit
import Derived.Test.YthflokonihegbaaSEnc
namespace Go.Proofs.Ythflokonihegbaa
open Go.RowKit
set_option linter.unusedVariables false
set_option linter.unusedSimpArgs false

theorem at_below {T e : TypeId} {B b : Nat} {p : Value} {bs : List Value} {w w' : World} (h : Lib.BuilderAt T e B b p bs w) (hb : Below w.heap.size w w') : Lib.BuilderAt T e B b p bs w' := by
  obtain ⟨h0, v, h1, h2, h3⟩ := h
  exact ⟨h0, v, (hb.block b (by have := (Array.getElem?_eq_some_iff.1 h1).1; exact this)).trans h1, own_below h2 hb, h3⟩
theorem builder_below {T e : TypeId} {B b : Nat} {bs : List Value} {w w' : World} (h : Lib.IsBuilder T e B b bs w) (hb : Below w.heap.size w w') : Lib.IsBuilder T e B b bs w' := by
  rcases h with h | h
  · exact .inl (at_below h hb)
  · exact .inr (at_below h hb)
/-- The bytes that a builder holds. -/
def cellsS (s : ByteArray) : List Value := Lib.byteCells s.data.toList
theorem cellsS_app (s t : ByteArray) : cellsS s ++ Lib.strCells t = cellsS (s ++ t) := by
  unfold cellsS
  rw [Lib.strCells_eq]
  simp [Lib.byteCells]
theorem cellsS_len (s : ByteArray) : (cellsS s).length = s.size := by
  unfold cellsS; rw [Lib.byteCells_length]; simp
theorem ints_lit (w : World) (xs : List Int) (hx : xs.length ≤ 1000) : Ints (w.alloc (.cells (xs.map (Value.int .i64)).toArray 3)) (.slice (some ⟨w.heap.size, 0, none⟩) xs.length xs.length) xs := by
  have := own_lit w.heap.size 3 w (xs.map (Value.int .i64)) (Nat.le_refl _) (by simp; omega)
  rw [List.length_map] at this
  exact Ints.of_own this

set_option maxRecDepth 100000 in
set_option maxHeartbeats 1000000 in
theorem ei_any (v : Value) (xs : List Int) (w : World) (h : Ints w v xs) (hx : xs.length ≤ 1048576) :
    Calls Try.prog 62 #[v] w (EncPost w (joinS xs)) := by
  obtain ⟨a, c, rfl, h⟩ := h
  have HC := Lib.hid h
  clear h
  go_enter Try.func62, Try.ntmps62
  go_wp2_with fail
  have F0 := Lib.hid (Lib.fresh_isBuilder 70 5 w)
  go_loopw [5, 8] (fun _ iv wr => ∃ k : Nat, k ≤ xs.length ∧ iv = .int .i64 k ∧ Lib.IsBuilder 70 5 w.heap.size w.heap.size (cellsS (joinS (xs.take k))) wr ∧ Below w.heap.size w wr) (fun _ iv _ => xs.length - (intOf iv).toNat)
  case atStart => exact ⟨0, Nat.zero_le _, rfl, F0.out, (Below.refl _ _).alloc (Nat.le_refl _) _⟩
  case round =>
    obtain ⟨k, hk, rfl, hbl, hbel⟩ := hrel
    have HBL := Lib.hid hbl
    have HB := Lib.hid hbel
    clear hbl hbel
    by_cases hlt : k < xs.length
    · obtain ⟨g, o, rfl, hc⟩ := HC.out (by rintro rfl; simp at hlt)
      have e1 := hc k hlt
      have e1 := (HB.out.cell (World.block_lt_of_cell? w _ e1)).trans e1
      have b1 : (k : Int) < (xs.length : Int) := by omega
      have HCC := Lib.hid hc
      clear hc
      have HS := Lib.hid (joinS_step xs k hlt)
      have hsz := joinS_size (xs.take k)
      have hsz2 : (xs.take k).length ≤ k := List.length_take_le _ _
      generalize xs.getD k 0 = z at e1 HS
      have h4 : (encS z).size ≤ 4 := by have := encS_size z; have := vlen_cases z; omega
      go_wp2_with fail
      refine (ienc_any _ _).mono ?_
      rintro e w1 ⟨rfl, hb1⟩
      have HB1 := Lib.hid (HB.out.trans (hb1.mono HB.out.size))
      have HBL1 := Lib.hid (builder_below HBL.out hb1)
      clear hb1
      go_wp2_with fail
      refine (write_any _ _ _ (encS z) _ HBL1.out (by rw [cellsS_len]; omega) HB1.out.size).mono ?_
      rintro e w2 ⟨rfl, hat, hb2⟩
      have HB2 := Lib.hid (HB1.out.trans hb2)
      rw [cellsS_app, ← HS.out] at hat
      have HAT := Lib.hid hat
      clear hat hb2
      go_wp2_with fail
      go_roundw
      case rel => exact ⟨k + 1, by omega, by go_num, .inr HAT.out, HB2.out⟩
      case measure => simp [intOf]; omega
    · have hbl2 := HBL.out
      rw [List.take_of_length_le (by omega)] at hbl2
      have HBL2 := Lib.hid hbl2
      clear hbl2
      go_wp2_with fail
      refine (bstring_any _ _ _ _ HBL2.out HB.out.size).mono ?_
      rintro e w' ⟨rfl, hb⟩
      have HB3 := Lib.hid (HB.out.trans hb)
      clear hb
      go_wp2_with fail
      go_ret
      exact ⟨rfl, HB3.out⟩

set_option maxRecDepth 100000 in
set_option maxHeartbeats 1000000 in
theorem ed_any (d : ByteArray) (w : World) (hd : d.size ≤ 2097152) : Calls Try.prog 64 #[.string d] w (EncPost w (joinS [(d.size : Int)] ++ d)) := by
  go_enter Try.func64, Try.ntmps64
  have hsz := joinS_size [(d.size : Int)]
  have hcat : ¬ 9223372036854775807 < (joinS [(d.size : Int)]).size + d.size := by simp at hsz; omega
  have HI := Lib.hid (ints_lit w [(d.size : Int)] (by simp))
  generalize hj : joinS [(d.size : Int)] = js at *
  have HJ := Lib.hid hj
  clear hj hsz
  go_wp2_with fail
  refine (ei_any _ [(d.size : Int)] _ HI.out (by simp)).mono ?_
  rw [HJ.out]
  rintro e w1 ⟨rfl, hb⟩
  have HB := Lib.hid (((Below.refl w.heap.size w).alloc (Nat.le_refl _) _).trans (hb.mono (by simp)))
  clear hb
  go_wp2_with fail
  go_ret
  exact ⟨rfl, HB.out⟩

theorem far_new {B b : Nat} {bs : List Value} {wr w3 w4 : World} (h : Lib.IsBuilder 70 5 B b bs wr) (hb : Below wr.heap.size wr w3) (hlt : wr.heap.size < w3.heap.size) (hf : Far b w3 w4) (i : Nat) : w4.cell? ⟨wr.heap.size, i, none⟩ = w3.cell? ⟨wr.heap.size, i, none⟩ := by
  have key : ∃ p v, wr.heap[b]? = some (.cells #[p, v] 70 (0, 0)) ∧ b < wr.heap.size ∧ ∀ k, v.ownBlock = some k → k < wr.heap.size := by
    rcases h with h | h
    · have hl := h.lt
      obtain ⟨hB, v, h1, h2, h3⟩ := h
      exact ⟨_, v, h1, hl, fun k hk => (World.ownsRow.lt h2 k hk).2⟩
    · have hl := h.lt
      obtain ⟨hB, v, h1, h2, h3⟩ := h
      exact ⟨_, v, h1, hl, fun k hk => (World.ownsRow.lt h2 k hk).2⟩
  obtain ⟨p, v, h1, hl, h2⟩ := key
  refine World.cell?_of_block (w := w3) (hf wr.heap.size hlt (by omega) ?_)
  intro p' v' h' hk
  rw [hb.block b hl, h1] at h'
  simp at h'
  have := h2 _ (by rw [h'.2]; exact hk)
  omega
theorem ints_at (w : World) (g n : Nat) (xs : List Int) (hg : g = w.heap.size) (hn : xs.length = n) (hx : n ≤ 1000) : Ints (w.alloc (.cells (xs.map (Value.int .i64)).toArray 3)) (.slice (some ⟨g, 0, none⟩) n n) xs := by
  subst hg hn; exact ints_lit w xs hx
theorem erg_step (rs : List (Int × Int)) (k : Nat) (h : k < rs.length) (n : Int) : joinS (n :: deltas (-2) (rs.take (k + 1))) = joinS (n :: deltas (-2) (rs.take k)) ++ joinS [(rs.getD k (0, 0)).1 - (lst (-2) (rs.take k) + 2), (rs.getD k (0, 0)).2 - (rs.getD k (0, 0)).1] ∧ lst (-2) (rs.take (k + 1)) = (rs.getD k (0, 0)).2 := by
  obtain ⟨h1, h2⟩ := take_snoc rs k h
  obtain ⟨h3, h4⟩ := deltas_snoc (-2) (rs.take k) ((rs.getD k (0, 0)).1, (rs.getD k (0, 0)).2)
  rw [h1, h3, h4, ← joinS_app, List.cons_append]
  refine ⟨?_, rfl⟩
  rw [show (rs.getD k (0, 0)).1 - (lst (-2) (rs.take k) + 2) = ((rs.getD k (0, 0)).1, (rs.getD k (0, 0)).2).1 - lst (-2) (rs.take k) - 2 from by simp only; omega]

set_option maxRecDepth 100000 in
set_option maxHeartbeats 2000000 in
theorem er_any (v : Value) (rs : List (Int × Int)) (w : World) (h : Rngs w v rs) (hr16 : rs.length ≤ 16) (hmem : ∀ r ∈ rs, 0 ≤ r.1 ∧ r.1 ≤ r.2 ∧ r.2 ≤ 999) :
    Calls Try.prog 63 #[v] w (EncPost w (joinS ((rs.length : Int) :: deltas (-2) rs))) := by
  obtain ⟨a, c, rfl, h⟩ := h
  have HC := Lib.hid h
  have HM := Lib.hid hmem
  clear h hmem
  have hjs := joinS_size [(rs.length : Int)]
  have hjl : [(rs.length : Int)].length = 1 := rfl
  go_enter Try.func63, Try.ntmps63
  go_wp2_with fail
  have F0 := Lib.hid (Lib.fresh_isBuilder 70 5 w)
  have A0 : Hid (Below w.heap.size w ((w.alloc (.cells #[.pointer none, .slice none 0 0] 70)).alloc (.cells #[.int .i64 (rs.length : Int)] 3))) := Lib.hid (((Below.refl _ _).alloc (Nat.le_refl _) _).alloc (by simp) _)
  have HI : Hid (Ints ((w.alloc (.cells #[.pointer none, .slice none 0 0] 70)).alloc (.cells #[.int .i64 (rs.length : Int)] 3)) (.slice (some ⟨w.heap.size + 1, 0, none⟩) 1 1) [(rs.length : Int)]) := Lib.hid (ints_at _ _ 1 [(rs.length : Int)] (by simp) rfl (by omega))
  have F1 : Hid (Lib.IsBuilder 70 5 w.heap.size w.heap.size [] ((w.alloc (.cells #[.pointer none, .slice none 0 0] 70)).alloc (.cells #[.int .i64 (rs.length : Int)] 3))) := Lib.hid (builder_below F0.out ((Below.refl _ _).alloc (Nat.le_refl _) _))
  generalize (w.alloc (.cells #[.pointer none, .slice none 0 0] 70)).alloc (.cells #[.int .i64 (rs.length : Int)] 3) = W at *
  refine (ei_any _ [(rs.length : Int)] _ HI.out (by simp)).mono ?_
  rintro e w1 ⟨rfl, hb1⟩
  have HB1 := Lib.hid (A0.out.trans (hb1.mono A0.out.size))
  have HBL1 := Lib.hid (builder_below F1.out hb1)
  clear hb1
  go_wp2_with fail
  refine (write_any _ _ _ (joinS [(rs.length : Int)]) _ HBL1.out (by simp at hjs ⊢; omega) HB1.out.size).mono ?_
  rintro e w2 ⟨rfl, hat, hb2⟩
  have HB2 := Lib.hid (HB1.out.trans hb2)
  have HAT : Hid (Lib.IsBuilder 70 5 w.heap.size w.heap.size (cellsS (joinS ((rs.length : Int) :: deltas (-2) (rs.take 0)))) w2) := Lib.hid (.inr (by
    have : [] ++ Lib.strCells (joinS [(rs.length : Int)]) = cellsS (joinS ((rs.length : Int) :: deltas (-2) (rs.take 0))) := by
      have h := cellsS_app ⟨#[]⟩ (joinS [(rs.length : Int)])
      rw [show cellsS ⟨#[]⟩ = [] from rfl] at h
      rw [h, List.take_zero, deltas]
      congr 1
    rw [← this]; exact hat))
  clear hat hb2
  go_wp2_with fail
  go_loopw [4, 6, 14] (fun lv _ iv wr => ∃ (k : Nat) (nx : Int), k ≤ rs.length ∧ iv = .int .i64 k ∧ lv = .int .i64 nx ∧ Hid (nx = lst (-2) (rs.take k) + 2) ∧ Hid (Lib.IsBuilder 70 5 w.heap.size w.heap.size (cellsS (joinS ((rs.length : Int) :: deltas (-2) (rs.take k)))) wr) ∧ Below w.heap.size w wr) (fun _ _ iv _ => rs.length - (intOf iv).toNat)
  case atStart => exact ⟨0, 0, Nat.zero_le _, rfl, rfl, rfl, HAT.out, HB2.out⟩
  case round =>
    obtain ⟨k, nx, hk, rfl, rfl, HN, HBL, hbel⟩ := hrel
    have HB := Lib.hid hbel
    clear hbel
    by_cases hlt : k < rs.length
    · obtain ⟨g, o, rfl, hc⟩ := HC.out (by rintro rfl; simp at hlt)
      obtain ⟨e1, e2⟩ := hc k hlt
      have e1 := (HB.out.cell (World.block_lt_of_cell? w _ e1)).trans e1
      have e2 := (HB.out.cell (World.block_lt_of_cell? w _ e2)).trans e2
      have b1 : (k : Int) < (rs.length : Int) := by omega
      have HST := Lib.hid (erg_step rs k hlt (rs.length : Int))
      obtain ⟨x0, x1, x2⟩ := HM.out _ (take_snoc rs k hlt).2
      have hls := lst_bnd (-2) (rs.take k) (fun r hr => HM.out r (List.mem_of_mem_take hr)) (by omega) (by omega)
      rw [show lst (-2) (rs.take k) = nx - 2 from by rw [HN.out]; omega] at hls
      rw [← HN.out] at HST
      have hsz := joinS_size ((rs.length : Int) :: deltas (-2) (rs.take k))
      have hsz2 : ((rs.length : Int) :: deltas (-2) (rs.take k)).length ≤ 40 := by rw [List.length_cons, deltas_len]; have := List.length_take_le k rs; omega
      have hsz3 := joinS_size [(rs.getD k (0, 0)).1 - nx, (rs.getD k (0, 0)).2 - (rs.getD k (0, 0)).1]
      have HCC := Lib.hid hc
      clear hc
      have HB3 : Hid (Below w.heap.size w (wr.alloc (.cells #[.int .i64 (rs.getD k (0, 0)).1, .int .i64 (rs.getD k (0, 0)).2] 85))) := Lib.hid (HB.out.alloc HB.out.size _)
      have HBL3 : Hid (Lib.IsBuilder 70 5 w.heap.size w.heap.size (cellsS (joinS ((rs.length : Int) :: deltas (-2) (rs.take k)))) (wr.alloc (.cells #[.int .i64 (rs.getD k (0, 0)).1, .int .i64 (rs.getD k (0, 0)).2] 85))) := Lib.hid (builder_below HBL.out ((Below.refl _ _).alloc (Nat.le_refl _) _))
      generalize (rs.getD k (0, 0)).1 = x at *
      generalize (rs.getD k (0, 0)).2 = y at *
      have v1 : IntKind.i64.wrap (x - nx) = x - nx := IntWalk.i64_in _ (by omega)
      have v2 : IntKind.i64.wrap (y - x) = y - x := IntWalk.i64_in _ (by omega)
      have v3 : IntKind.i64.wrap (y + 2) = y + 2 := IntWalk.i64_in _ (by omega)
      go_wp2_with fail
      have HI2 : Hid (Ints ((wr.alloc (.cells #[.int .i64 x, .int .i64 y] 85)).alloc (.cells #[.int .i64 (x - nx), .int .i64 (y - x)] 3)) (.slice (some ⟨wr.heap.size + 1, 0, none⟩) 2 2) [x - nx, y - x]) := Lib.hid (ints_at _ _ 2 [x - nx, y - x] (by simp) rfl (by omega))
      refine (ei_any _ [x - nx, y - x] _ HI2.out (by simp)).mono ?_
      rintro e w3 ⟨rfl, hb3⟩
      have hbz : Below (wr.alloc (.cells #[.int .i64 x, .int .i64 y] 85)).heap.size (wr.alloc (.cells #[.int .i64 x, .int .i64 y] 85)) w3 := (((Below.refl _ _).alloc (Nat.le_refl _) _).trans (hb3.mono (by simp)))
      have HB4 := Lib.hid (HB3.out.trans (hbz.mono HB3.out.size))
      have HBL4 := Lib.hid (builder_below HBL3.out hbz)
      have rx0 : w3.cell? ⟨wr.heap.size, 1, none⟩ = some (.int .i64 y) := (hbz.cell (by simp)).trans (by rw [World.cell?_alloc_mark]; rfl)
      have HBZ := Lib.hid (((Below.refl wr.heap.size wr).alloc (Nat.le_refl _) (.cells #[.int .i64 x, .int .i64 y] 85)).trans (hbz.mono (by simp)))
      have HBZ2 := Lib.hid hbz.size
      clear hb3 hbz
      go_wp2_with fail
      refine (write_far _ _ _ (joinS [x - nx, y - x]) _ HBL4.out (by rw [cellsS_len]; simp at hsz3 ⊢; omega) HB4.out.size).mono ?_
      rintro e w4 ⟨rfl, hat, hb4, hfar⟩
      have HB5 := Lib.hid (HB4.out.trans hb4)
      rw [cellsS_app, ← HST.out.1] at hat
      have HAT4 := Lib.hid hat
      have rx1 : w4.cell? ⟨wr.heap.size, 1, none⟩ = some (.int .i64 y) := (far_new HBL.out HBZ.out (by have := HBZ2.out; simp at this; omega) hfar 1).trans rx0
      clear hat hb4 hfar
      go_wp2_with fail
      go_roundw
      case rel => exact ⟨k + 1, y + 2, by omega, by go_num, rfl, by rw [HST.out.2]; rfl, .inr HAT4.out, HB5.out⟩
      case measure => simp [intOf]; omega
    · have hbl2 := HBL.out
      rw [List.take_of_length_le (by omega)] at hbl2
      have HBL2 := Lib.hid hbl2
      clear hbl2
      go_wp2_with fail
      refine (bstring_any _ _ _ _ HBL2.out HB.out.size).mono ?_
      rintro e w' ⟨rfl, hb⟩
      have HB3 := Lib.hid (HB.out.trans hb)
      clear hb
      go_wp2_with fail
      go_ret
      exact ⟨rfl, HB3.out⟩

end Go.Proofs.Ythflokonihegbaa
