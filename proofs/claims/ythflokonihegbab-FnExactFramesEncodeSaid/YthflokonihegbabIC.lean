/- The program's FrameEncode. -/
import Derived.Test.YthflokonihegbabIA
import Derived.Test.YthflokonihegbabLit
import Derived.Test.YthflokonihegbabSEnc
import Derived.Test.YthflokonihegbabIB
namespace Go.Proofs.Ythflokonihegbab
open Go.RowKit
set_option linter.unusedVariables false
set_option linter.unusedSimpArgs false

theorem at_below {T e : TypeId} {B b : Nat} {p : Value} {bs : List Value} {w w' : World} (h : Lib.BuilderAt T e B b p bs w) (hb : Below w.heap.size w w') : Lib.BuilderAt T e B b p bs w' := by
  obtain ⟨h0, v, h1, h2, h3⟩ := h
  exact ⟨h0, v, (hb.block b (by have := (Array.getElem?_eq_some_iff.1 h1).1; exact this)).trans h1, own_below h2 hb, h3⟩
theorem builder_below {T e : TypeId} {B b : Nat} {bs : List Value} {w w' : World} (h : Lib.IsBuilder T e B b bs w) (hb : Below w.heap.size w w') : Lib.IsBuilder T e B b bs w' := by
  rcases h with h | h
  · exact .inl (at_below h hb)
  · exact .inr (at_below h hb)
/-- The bytes that a builder holds. -/
def cellsS (s : ByteArray) : List Value := Lib.byteCells s.data.toList
theorem cellsS_app (s t : ByteArray) : cellsS s ++ Lib.strCells t = cellsS (s ++ t) := by
  unfold cellsS
  rw [Lib.strCells_eq]
  simp [Lib.byteCells]
theorem cellsS_len (s : ByteArray) : (cellsS s).length = s.size := by
  unfold cellsS; rw [Lib.byteCells_length]; simp
theorem ints_lit (w : World) (xs : List Int) (hx : xs.length ≤ 1000) : Ints (w.alloc (.cells (xs.map (Value.int .i64)).toArray 3)) (.slice (some ⟨w.heap.size, 0, none⟩) xs.length xs.length) xs := by
  have := own_lit w.heap.size 3 w (xs.map (Value.int .i64)) (Nat.le_refl _) (by simp; omega)
  rw [List.length_map] at this
  exact Ints.of_own this

set_option maxRecDepth 100000 in
set_option maxHeartbeats 1000000 in
theorem ei_any (v : Value) (xs : List Int) (w : World) (h : Ints w v xs) (hx : xs.length ≤ 1048576) :
    Calls Try.prog 53 #[v] w (EncPost w (joinS xs)) := by
  obtain ⟨a, c, rfl, h⟩ := h
  have HC := Lib.hid h
  clear h
  go_enter Try.func53, Try.ntmps53
  go_wp2_with fail
  have F0 := Lib.hid (Lib.fresh_isBuilder 70 5 w)
  go_loopw [5, 8] (fun _ iv wr => ∃ k : Nat, k ≤ xs.length ∧ iv = .int .i64 k ∧ Lib.IsBuilder 70 5 w.heap.size w.heap.size (cellsS (joinS (xs.take k))) wr ∧ Below w.heap.size w wr) (fun _ iv _ => xs.length - (intOf iv).toNat)
  case atStart => exact ⟨0, Nat.zero_le _, rfl, F0.out, (Below.refl _ _).alloc (Nat.le_refl _) _⟩
  case round =>
    obtain ⟨k, hk, rfl, hbl, hbel⟩ := hrel
    have HBL := Lib.hid hbl
    have HB := Lib.hid hbel
    clear hbl hbel
    by_cases hlt : k < xs.length
    · obtain ⟨g, o, rfl, hc⟩ := HC.out (by rintro rfl; simp at hlt)
      have e1 := hc k hlt
      have e1 := (HB.out.cell (World.block_lt_of_cell? w _ e1)).trans e1
      have b1 : (k : Int) < (xs.length : Int) := by omega
      have HCC := Lib.hid hc
      clear hc
      have HS := Lib.hid (joinS_step xs k hlt)
      have hsz := joinS_size (xs.take k)
      have hsz2 : (xs.take k).length ≤ k := List.length_take_le _ _
      generalize xs.getD k 0 = z at e1 HS
      have h4 : (encS z).size ≤ 4 := by have := encS_size z; have := vlen_cases z; omega
      go_wp2_with fail
      refine (ienc_any _ _).mono ?_
      rintro e w1 ⟨rfl, hb1⟩
      have HB1 := Lib.hid (HB.out.trans (hb1.mono HB.out.size))
      have HBL1 := Lib.hid (builder_below HBL.out hb1)
      clear hb1
      go_wp2_with fail
      refine (write_any _ _ _ (encS z) _ HBL1.out (by rw [cellsS_len]; omega) HB1.out.size).mono ?_
      rintro e w2 ⟨rfl, hat, hb2⟩
      have HB2 := Lib.hid (HB1.out.trans hb2)
      rw [cellsS_app, ← HS.out] at hat
      have HAT := Lib.hid hat
      clear hat hb2
      go_wp2_with fail
      go_roundw
      case rel => exact ⟨k + 1, by omega, by go_num, .inr HAT.out, HB2.out⟩
      case measure => simp [intOf]; omega
    · have hbl2 := HBL.out
      rw [List.take_of_length_le (by omega)] at hbl2
      have HBL2 := Lib.hid hbl2
      clear hbl2
      go_wp2_with fail
      refine (bstring_any _ _ _ _ HBL2.out HB.out.size).mono ?_
      rintro e w' ⟨rfl, hb⟩
      have HB3 := Lib.hid (HB.out.trans hb)
      clear hb
      go_wp2_with fail
      go_ret
      exact ⟨rfl, HB3.out⟩

set_option maxRecDepth 100000 in
set_option maxHeartbeats 1000000 in
theorem ed_any (d : ByteArray) (w : World) (hd : d.size ≤ 2097152) : Calls Try.prog 55 #[.string d] w (EncPost w (joinS [(d.size : Int)] ++ d)) := by
  go_enter Try.func55, Try.ntmps55
  have hsz := joinS_size [(d.size : Int)]
  have hcat : ¬ 9223372036854775807 < (joinS [(d.size : Int)]).size + d.size := by simp at hsz; omega
  have HI := Lib.hid (ints_lit w [(d.size : Int)] (by simp))
  generalize hj : joinS [(d.size : Int)] = js at *
  have HJ := Lib.hid hj
  clear hj hsz
  go_wp2_with fail
  refine (ei_any _ [(d.size : Int)] _ HI.out (by simp)).mono ?_
  rw [HJ.out]
  rintro e w1 ⟨rfl, hb⟩
  have HB := Lib.hid (((Below.refl w.heap.size w).alloc (Nat.le_refl _) _).trans (hb.mono (by simp)))
  clear hb
  go_wp2_with fail
  go_ret
  exact ⟨rfl, HB.out⟩

theorem far_new {B b : Nat} {bs : List Value} {wr w3 w4 : World} (h : Lib.IsBuilder 70 5 B b bs wr) (hb : Below wr.heap.size wr w3) (hlt : wr.heap.size < w3.heap.size) (hf : Far b w3 w4) (i : Nat) : w4.cell? ⟨wr.heap.size, i, none⟩ = w3.cell? ⟨wr.heap.size, i, none⟩ := by
  have key : ∃ p v, wr.heap[b]? = some (.cells #[p, v] 70 (0, 0)) ∧ b < wr.heap.size ∧ ∀ k, v.ownBlock = some k → k < wr.heap.size := by
    rcases h with h | h
    · have hl := h.lt
      obtain ⟨hB, v, h1, h2, h3⟩ := h
      exact ⟨_, v, h1, hl, fun k hk => (World.ownsRow.lt h2 k hk).2⟩
    · have hl := h.lt
      obtain ⟨hB, v, h1, h2, h3⟩ := h
      exact ⟨_, v, h1, hl, fun k hk => (World.ownsRow.lt h2 k hk).2⟩
  obtain ⟨p, v, h1, hl, h2⟩ := key
  refine World.cell?_of_block (w := w3) (hf wr.heap.size hlt (by omega) ?_)
  intro p' v' h' hk
  rw [hb.block b hl, h1] at h'
  simp at h'
  have := h2 _ (by rw [h'.2]; exact hk)
  omega
theorem ints_at (w : World) (g n : Nat) (xs : List Int) (hg : g = w.heap.size) (hn : xs.length = n) (hx : n ≤ 1000) : Ints (w.alloc (.cells (xs.map (Value.int .i64)).toArray 3)) (.slice (some ⟨g, 0, none⟩) n n) xs := by
  subst hg hn; exact ints_lit w xs hx
theorem erg_step (rs : List (Int × Int)) (k : Nat) (h : k < rs.length) (n : Int) : joinS (n :: deltas (-2) (rs.take (k + 1))) = joinS (n :: deltas (-2) (rs.take k)) ++ joinS [(rs.getD k (0, 0)).1 - (lst (-2) (rs.take k) + 2), (rs.getD k (0, 0)).2 - (rs.getD k (0, 0)).1] ∧ lst (-2) (rs.take (k + 1)) = (rs.getD k (0, 0)).2 := by
  obtain ⟨h1, h2⟩ := take_snoc rs k h
  obtain ⟨h3, h4⟩ := deltas_snoc (-2) (rs.take k) ((rs.getD k (0, 0)).1, (rs.getD k (0, 0)).2)
  rw [h1, h3, h4, ← joinS_app, List.cons_append]
  refine ⟨?_, rfl⟩
  rw [show (rs.getD k (0, 0)).1 - (lst (-2) (rs.take k) + 2) = ((rs.getD k (0, 0)).1, (rs.getD k (0, 0)).2).1 - lst (-2) (rs.take k) - 2 from by simp only; omega]

set_option maxRecDepth 100000 in
set_option maxHeartbeats 2000000 in
theorem er_any (v : Value) (rs : List (Int × Int)) (w : World) (h : Rngs w v rs) (hr16 : rs.length ≤ 16) (hmem : ∀ r ∈ rs, 0 ≤ r.1 ∧ r.1 ≤ r.2 ∧ r.2 ≤ 999) :
    Calls Try.prog 54 #[v] w (EncPost w (joinS ((rs.length : Int) :: deltas (-2) rs))) := by
  obtain ⟨a, c, rfl, h⟩ := h
  have HC := Lib.hid h
  have HM := Lib.hid hmem
  clear h hmem
  have hjs := joinS_size [(rs.length : Int)]
  have hjl : [(rs.length : Int)].length = 1 := rfl
  go_enter Try.func54, Try.ntmps54
  go_wp2_with fail
  have F0 := Lib.hid (Lib.fresh_isBuilder 70 5 w)
  have A0 : Hid (Below w.heap.size w ((w.alloc (.cells #[.pointer none, .slice none 0 0] 70)).alloc (.cells #[.int .i64 (rs.length : Int)] 3))) := Lib.hid (((Below.refl _ _).alloc (Nat.le_refl _) _).alloc (by simp) _)
  have HI : Hid (Ints ((w.alloc (.cells #[.pointer none, .slice none 0 0] 70)).alloc (.cells #[.int .i64 (rs.length : Int)] 3)) (.slice (some ⟨w.heap.size + 1, 0, none⟩) 1 1) [(rs.length : Int)]) := Lib.hid (ints_at _ _ 1 [(rs.length : Int)] (by simp) rfl (by omega))
  have F1 : Hid (Lib.IsBuilder 70 5 w.heap.size w.heap.size [] ((w.alloc (.cells #[.pointer none, .slice none 0 0] 70)).alloc (.cells #[.int .i64 (rs.length : Int)] 3))) := Lib.hid (builder_below F0.out ((Below.refl _ _).alloc (Nat.le_refl _) _))
  generalize (w.alloc (.cells #[.pointer none, .slice none 0 0] 70)).alloc (.cells #[.int .i64 (rs.length : Int)] 3) = W at *
  refine (ei_any _ [(rs.length : Int)] _ HI.out (by simp)).mono ?_
  rintro e w1 ⟨rfl, hb1⟩
  have HB1 := Lib.hid (A0.out.trans (hb1.mono A0.out.size))
  have HBL1 := Lib.hid (builder_below F1.out hb1)
  clear hb1
  go_wp2_with fail
  refine (write_any _ _ _ (joinS [(rs.length : Int)]) _ HBL1.out (by simp at hjs ⊢; omega) HB1.out.size).mono ?_
  rintro e w2 ⟨rfl, hat, hb2⟩
  have HB2 := Lib.hid (HB1.out.trans hb2)
  have HAT : Hid (Lib.IsBuilder 70 5 w.heap.size w.heap.size (cellsS (joinS ((rs.length : Int) :: deltas (-2) (rs.take 0)))) w2) := Lib.hid (.inr (by
    have : [] ++ Lib.strCells (joinS [(rs.length : Int)]) = cellsS (joinS ((rs.length : Int) :: deltas (-2) (rs.take 0))) := by
      have h := cellsS_app ⟨#[]⟩ (joinS [(rs.length : Int)])
      rw [show cellsS ⟨#[]⟩ = [] from rfl] at h
      rw [h, List.take_zero, deltas]
      congr 1
    rw [← this]; exact hat))
  clear hat hb2
  go_wp2_with fail
  go_loopw [4, 6, 14] (fun lv _ iv wr => ∃ (k : Nat) (nx : Int), k ≤ rs.length ∧ iv = .int .i64 k ∧ lv = .int .i64 nx ∧ Hid (nx = lst (-2) (rs.take k) + 2) ∧ Hid (Lib.IsBuilder 70 5 w.heap.size w.heap.size (cellsS (joinS ((rs.length : Int) :: deltas (-2) (rs.take k)))) wr) ∧ Below w.heap.size w wr) (fun _ _ iv _ => rs.length - (intOf iv).toNat)
  case atStart => exact ⟨0, 0, Nat.zero_le _, rfl, rfl, rfl, HAT.out, HB2.out⟩
  case round =>
    obtain ⟨k, nx, hk, rfl, rfl, HN, HBL, hbel⟩ := hrel
    have HB := Lib.hid hbel
    clear hbel
    by_cases hlt : k < rs.length
    · obtain ⟨g, o, rfl, hc⟩ := HC.out (by rintro rfl; simp at hlt)
      obtain ⟨e1, e2⟩ := hc k hlt
      have e1 := (HB.out.cell (World.block_lt_of_cell? w _ e1)).trans e1
      have e2 := (HB.out.cell (World.block_lt_of_cell? w _ e2)).trans e2
      have b1 : (k : Int) < (rs.length : Int) := by omega
      have HST := Lib.hid (erg_step rs k hlt (rs.length : Int))
      obtain ⟨x0, x1, x2⟩ := HM.out _ (take_snoc rs k hlt).2
      have hls := lst_bnd (-2) (rs.take k) (fun r hr => HM.out r (List.mem_of_mem_take hr)) (by omega) (by omega)
      rw [show lst (-2) (rs.take k) = nx - 2 from by rw [HN.out]; omega] at hls
      rw [← HN.out] at HST
      have hsz := joinS_size ((rs.length : Int) :: deltas (-2) (rs.take k))
      have hsz2 : ((rs.length : Int) :: deltas (-2) (rs.take k)).length ≤ 40 := by rw [List.length_cons, deltas_len]; have := List.length_take_le k rs; omega
      have hsz3 := joinS_size [(rs.getD k (0, 0)).1 - nx, (rs.getD k (0, 0)).2 - (rs.getD k (0, 0)).1]
      have HCC := Lib.hid hc
      clear hc
      have HB3 : Hid (Below w.heap.size w (wr.alloc (.cells #[.int .i64 (rs.getD k (0, 0)).1, .int .i64 (rs.getD k (0, 0)).2] 85))) := Lib.hid (HB.out.alloc HB.out.size _)
      have HBL3 : Hid (Lib.IsBuilder 70 5 w.heap.size w.heap.size (cellsS (joinS ((rs.length : Int) :: deltas (-2) (rs.take k)))) (wr.alloc (.cells #[.int .i64 (rs.getD k (0, 0)).1, .int .i64 (rs.getD k (0, 0)).2] 85))) := Lib.hid (builder_below HBL.out ((Below.refl _ _).alloc (Nat.le_refl _) _))
      generalize (rs.getD k (0, 0)).1 = x at *
      generalize (rs.getD k (0, 0)).2 = y at *
      have v1 : IntKind.i64.wrap (x - nx) = x - nx := IntWalk.i64_in _ (by omega)
      have v2 : IntKind.i64.wrap (y - x) = y - x := IntWalk.i64_in _ (by omega)
      have v3 : IntKind.i64.wrap (y + 2) = y + 2 := IntWalk.i64_in _ (by omega)
      go_wp2_with fail
      have HI2 : Hid (Ints ((wr.alloc (.cells #[.int .i64 x, .int .i64 y] 85)).alloc (.cells #[.int .i64 (x - nx), .int .i64 (y - x)] 3)) (.slice (some ⟨wr.heap.size + 1, 0, none⟩) 2 2) [x - nx, y - x]) := Lib.hid (ints_at _ _ 2 [x - nx, y - x] (by simp) rfl (by omega))
      refine (ei_any _ [x - nx, y - x] _ HI2.out (by simp)).mono ?_
      rintro e w3 ⟨rfl, hb3⟩
      have hbz : Below (wr.alloc (.cells #[.int .i64 x, .int .i64 y] 85)).heap.size (wr.alloc (.cells #[.int .i64 x, .int .i64 y] 85)) w3 := (((Below.refl _ _).alloc (Nat.le_refl _) _).trans (hb3.mono (by simp)))
      have HB4 := Lib.hid (HB3.out.trans (hbz.mono HB3.out.size))
      have HBL4 := Lib.hid (builder_below HBL3.out hbz)
      have rx0 : w3.cell? ⟨wr.heap.size, 1, none⟩ = some (.int .i64 y) := (hbz.cell (by simp)).trans (by rw [World.cell?_alloc_mark]; rfl)
      have HBZ := Lib.hid (((Below.refl wr.heap.size wr).alloc (Nat.le_refl _) (.cells #[.int .i64 x, .int .i64 y] 85)).trans (hbz.mono (by simp)))
      have HBZ2 := Lib.hid hbz.size
      clear hb3 hbz
      go_wp2_with fail
      refine (write_far _ _ _ (joinS [x - nx, y - x]) _ HBL4.out (by rw [cellsS_len]; simp at hsz3 ⊢; omega) HB4.out.size).mono ?_
      rintro e w4 ⟨rfl, hat, hb4, hfar⟩
      have HB5 := Lib.hid (HB4.out.trans hb4)
      rw [cellsS_app, ← HST.out.1] at hat
      have HAT4 := Lib.hid hat
      have rx1 : w4.cell? ⟨wr.heap.size, 1, none⟩ = some (.int .i64 y) := (far_new HBL.out HBZ.out (by have := HBZ2.out; simp at this; omega) hfar 1).trans rx0
      clear hat hb4 hfar
      go_wp2_with fail
      go_roundw
      case rel => exact ⟨k + 1, y + 2, by omega, by go_num, rfl, by rw [HST.out.2]; rfl, .inr HAT4.out, HB5.out⟩
      case measure => simp [intOf]; omega
    · have hbl2 := HBL.out
      rw [List.take_of_length_le (by omega)] at hbl2
      have HBL2 := Lib.hid hbl2
      clear hbl2
      go_wp2_with fail
      refine (bstring_any _ _ _ _ HBL2.out HB.out.size).mono ?_
      rintro e w' ⟨rfl, hb⟩
      have HB3 := Lib.hid (HB.out.trans hb)
      clear hb
      go_wp2_with fail
      go_ret
      exact ⟨rfl, HB3.out⟩

theorem jsz (xs : List Int) (n : Nat) (h : xs.length = n) : (joinS xs).size ≤ 4 * n := by subst h; exact joinS_size xs

set_option maxRecDepth 100000 in
set_option maxHeartbeats 1000000 in
theorem enb_0 (w : World) : Calls Try.prog 38 #[.iface 78 (.agg #[])] w (EncPost w (joinS [0])) := by
  have HF := Lib.hid (fun W => frame_0 W)
  unfold frV at HF
  have hfl := fun (W : World) (x1 x2 x3 x4 x5 : Value) => (show Sem.run Try.prog (Instr.field 29 (.agg #[.int .i64 0, x1, x2, x3, x4, x5]) 0) W = .ok (.int .i64 0) W by rfl)
  have ta0 := fun (W : World) (x : Value) => (show Sem.run Try.prog (Instr.typeAssert (.iface 78 x) 53 80 true) W = .ok (.tuple #[.agg #[.int .i64 0, .slice none 0 0], .bool false]) W by rfl)
  have ta1 := fun (W : World) (x : Value) => (show Sem.run Try.prog (Instr.typeAssert (.iface 78 x) 53 94 true) W = .ok (.tuple #[.agg #[.int .i64 0, .int .i64 0, .int .i64 0, .string ⟨#[]⟩], .bool false]) W by rfl)
  have ta2 := fun (W : World) (x : Value) => (show Sem.run Try.prog (Instr.typeAssert (.iface 78 x) 53 97 true) W = .ok (.tuple #[.agg #[.int .i64 0, .int .i64 0], .bool false]) W by rfl)
  have ta3 := fun (W : World) (x : Value) => (show Sem.run Try.prog (Instr.typeAssert (.iface 78 x) 53 99 true) W = .ok (.tuple #[.agg #[.int .i64 0], .bool false]) W by rfl)
  have ta4 := fun (W : World) (x : Value) => (show Sem.run Try.prog (Instr.typeAssert (.iface 78 x) 53 100 true) W = .ok (.tuple #[.agg #[.int .i64 0], .bool false]) W by rfl)
  have ta5 := fun (W : World) (x : Value) => (show Sem.run Try.prog (Instr.typeAssert (.iface 78 x) 53 102 true) W = .ok (.tuple #[.agg #[.int .i64 0, .int .i64 0], .bool false]) W by rfl)
  have ta6 := fun (W : World) (x : Value) => (show Sem.run Try.prog (Instr.typeAssert (.iface 78 x) 53 104 true) W = .ok (.tuple #[.agg #[.int .i64 0], .bool false]) W by rfl)
  have ta7 := fun (W : World) (x : Value) => (show Sem.run Try.prog (Instr.typeAssert (.iface 78 x) 53 106 true) W = .ok (.tuple #[.agg #[.string ⟨#[]⟩], .bool false]) W by rfl)
  have ta8 := fun (W : World) (x : Value) => (show Sem.run Try.prog (Instr.typeAssert (.iface 78 x) 53 82 true) W = .ok (.tuple #[.agg #[.int .i64 0], .bool false]) W by rfl)
  have hs0 := jsz [0] 1 rfl
  go_enter Try.func38, Try.ntmps38
  go_wp2_with fail
  refine (HF.out _).mono ?_
  rintro e w1 ⟨rfl, hb1⟩
  have HB1 := Lib.hid hb1
  clear hb1
  go_wp2_with fail
  refine (ei_any _ [0] _ (ints_at w1 _ 1 [0] rfl rfl (by omega)) (by simp)).mono ?_
  rintro e w2 ⟨rfl, hb2⟩
  have HB2 := Lib.hid (HB1.out.trans (((Below.refl w1.heap.size w1).alloc (Nat.le_refl _) _).trans (hb2.mono (by simp)) |>.mono HB1.out.size))
  clear hb2
  go_wp2_with fail
  go_ret
  exact ⟨rfl, HB2.out⟩

set_option maxRecDepth 100000 in
set_option maxHeartbeats 1000000 in
theorem enb_1 (w : World) : Calls Try.prog 38 #[.iface 115 (.agg #[])] w (EncPost w (joinS [1])) := by
  have HF := Lib.hid (fun W => frame_1 W)
  unfold frV at HF
  have hfl := fun (W : World) (x1 x2 x3 x4 x5 : Value) => (show Sem.run Try.prog (Instr.field 29 (.agg #[.int .i64 1, x1, x2, x3, x4, x5]) 0) W = .ok (.int .i64 1) W by rfl)
  have ta0 := fun (W : World) (x : Value) => (show Sem.run Try.prog (Instr.typeAssert (.iface 115 x) 53 80 true) W = .ok (.tuple #[.agg #[.int .i64 0, .slice none 0 0], .bool false]) W by rfl)
  have ta1 := fun (W : World) (x : Value) => (show Sem.run Try.prog (Instr.typeAssert (.iface 115 x) 53 94 true) W = .ok (.tuple #[.agg #[.int .i64 0, .int .i64 0, .int .i64 0, .string ⟨#[]⟩], .bool false]) W by rfl)
  have ta2 := fun (W : World) (x : Value) => (show Sem.run Try.prog (Instr.typeAssert (.iface 115 x) 53 97 true) W = .ok (.tuple #[.agg #[.int .i64 0, .int .i64 0], .bool false]) W by rfl)
  have ta3 := fun (W : World) (x : Value) => (show Sem.run Try.prog (Instr.typeAssert (.iface 115 x) 53 99 true) W = .ok (.tuple #[.agg #[.int .i64 0], .bool false]) W by rfl)
  have ta4 := fun (W : World) (x : Value) => (show Sem.run Try.prog (Instr.typeAssert (.iface 115 x) 53 100 true) W = .ok (.tuple #[.agg #[.int .i64 0], .bool false]) W by rfl)
  have ta5 := fun (W : World) (x : Value) => (show Sem.run Try.prog (Instr.typeAssert (.iface 115 x) 53 102 true) W = .ok (.tuple #[.agg #[.int .i64 0, .int .i64 0], .bool false]) W by rfl)
  have ta6 := fun (W : World) (x : Value) => (show Sem.run Try.prog (Instr.typeAssert (.iface 115 x) 53 104 true) W = .ok (.tuple #[.agg #[.int .i64 0], .bool false]) W by rfl)
  have ta7 := fun (W : World) (x : Value) => (show Sem.run Try.prog (Instr.typeAssert (.iface 115 x) 53 106 true) W = .ok (.tuple #[.agg #[.string ⟨#[]⟩], .bool false]) W by rfl)
  have ta8 := fun (W : World) (x : Value) => (show Sem.run Try.prog (Instr.typeAssert (.iface 115 x) 53 82 true) W = .ok (.tuple #[.agg #[.int .i64 0], .bool false]) W by rfl)
  have hs0 := jsz [1] 1 rfl
  go_enter Try.func38, Try.ntmps38
  go_wp2_with fail
  refine (HF.out _).mono ?_
  rintro e w1 ⟨rfl, hb1⟩
  have HB1 := Lib.hid hb1
  clear hb1
  go_wp2_with fail
  refine (ei_any _ [1] _ (ints_at w1 _ 1 [1] rfl rfl (by omega)) (by simp)).mono ?_
  rintro e w2 ⟨rfl, hb2⟩
  have HB2 := Lib.hid (HB1.out.trans (((Below.refl w1.heap.size w1).alloc (Nat.le_refl _) _).trans (hb2.mono (by simp)) |>.mono HB1.out.size))
  clear hb2
  go_wp2_with fail
  go_ret
  exact ⟨rfl, HB2.out⟩

set_option maxRecDepth 100000 in
set_option maxHeartbeats 1000000 in
theorem enb_4 (a b : Int) (w : World) : Calls Try.prog 38 #[.iface 97 (.agg #[.int .i64 a, .int .i64 b])] w (EncPost w (joinS [4] ++ joinS [a, b])) := by
  have HF := Lib.hid (fun W => frame_4 a b W)
  unfold frV at HF
  have hfl := fun (W : World) (x1 x2 x3 x4 x5 : Value) => (show Sem.run Try.prog (Instr.field 29 (.agg #[.int .i64 4, x1, x2, x3, x4, x5]) 0) W = .ok (.int .i64 4) W by rfl)
  have ta0 := fun (W : World) (x : Value) => (show Sem.run Try.prog (Instr.typeAssert (.iface 97 x) 53 80 true) W = .ok (.tuple #[.agg #[.int .i64 0, .slice none 0 0], .bool false]) W by rfl)
  have ta1 := fun (W : World) (x : Value) => (show Sem.run Try.prog (Instr.typeAssert (.iface 97 x) 53 94 true) W = .ok (.tuple #[.agg #[.int .i64 0, .int .i64 0, .int .i64 0, .string ⟨#[]⟩], .bool false]) W by rfl)
  have ta2 := fun (W : World) (x : Value) => (show Sem.run Try.prog (Instr.typeAssert (.iface 97 x) 53 97 true) W = .ok (.tuple #[x, .bool true]) W by rfl)
  have hs1 := jsz [a, b] 2 rfl
  have hs0 := jsz [4] 1 rfl
  go_enter Try.func38, Try.ntmps38
  go_wp2_with fail
  refine (HF.out _).mono ?_
  rintro e w1 ⟨rfl, hb1⟩
  have HB1 := Lib.hid hb1
  clear hb1
  go_wp2_with fail
  refine (ei_any _ [4] _ (ints_at w1 _ 1 [4] rfl rfl (by omega)) (by simp)).mono ?_
  rintro e w2 ⟨rfl, hb2⟩
  have HB2 := Lib.hid (HB1.out.trans (((Below.refl w1.heap.size w1).alloc (Nat.le_refl _) _).trans (hb2.mono (by simp)) |>.mono HB1.out.size))
  clear hb2
  generalize joinS [4] = j0 at *
  have hcat : ¬ 9223372036854775807 < j0.size + (joinS [a, b]).size := by omega
  have HI : Hid (Ints ((w2.alloc (.cells #[.int .i64 a, .int .i64 b] 97)).alloc (.cells #[.int .i64 a, .int .i64 b] 3)) (.slice (some ⟨w2.heap.size + 1, 0, none⟩) 2 2) [a, b]) := Lib.hid (ints_at _ _ 2 [a, b] (by simp) rfl (by omega))
  go_wp2_with fail
  refine (ei_any _ [a, b] _ HI.out (by simp)).mono ?_
  rintro e w3 ⟨rfl, hb3⟩
  have HB3 := Lib.hid (HB2.out.trans ((((Below.refl w2.heap.size w2).alloc (Nat.le_refl _) _).alloc (by simp) _).trans (hb3.mono (by simp; omega)) |>.mono HB2.out.size))
  clear hb3
  go_wp2_with fail
  go_ret
  exact ⟨rfl, HB3.out⟩

set_option maxRecDepth 100000 in
set_option maxHeartbeats 1000000 in
theorem enb_5 (a : Int) (w : World) : Calls Try.prog 38 #[.iface 99 (.agg #[.int .i64 a])] w (EncPost w (joinS [5] ++ joinS [a])) := by
  have HF := Lib.hid (fun W => frame_5 a W)
  unfold frV at HF
  have hfl := fun (W : World) (x1 x2 x3 x4 x5 : Value) => (show Sem.run Try.prog (Instr.field 29 (.agg #[.int .i64 5, x1, x2, x3, x4, x5]) 0) W = .ok (.int .i64 5) W by rfl)
  have ta0 := fun (W : World) (x : Value) => (show Sem.run Try.prog (Instr.typeAssert (.iface 99 x) 53 80 true) W = .ok (.tuple #[.agg #[.int .i64 0, .slice none 0 0], .bool false]) W by rfl)
  have ta1 := fun (W : World) (x : Value) => (show Sem.run Try.prog (Instr.typeAssert (.iface 99 x) 53 94 true) W = .ok (.tuple #[.agg #[.int .i64 0, .int .i64 0, .int .i64 0, .string ⟨#[]⟩], .bool false]) W by rfl)
  have ta2 := fun (W : World) (x : Value) => (show Sem.run Try.prog (Instr.typeAssert (.iface 99 x) 53 97 true) W = .ok (.tuple #[.agg #[.int .i64 0, .int .i64 0], .bool false]) W by rfl)
  have ta3 := fun (W : World) (x : Value) => (show Sem.run Try.prog (Instr.typeAssert (.iface 99 x) 53 99 true) W = .ok (.tuple #[x, .bool true]) W by rfl)
  have hs1 := jsz [a] 1 rfl
  have hs0 := jsz [5] 1 rfl
  go_enter Try.func38, Try.ntmps38
  go_wp2_with fail
  refine (HF.out _).mono ?_
  rintro e w1 ⟨rfl, hb1⟩
  have HB1 := Lib.hid hb1
  clear hb1
  go_wp2_with fail
  refine (ei_any _ [5] _ (ints_at w1 _ 1 [5] rfl rfl (by omega)) (by simp)).mono ?_
  rintro e w2 ⟨rfl, hb2⟩
  have HB2 := Lib.hid (HB1.out.trans (((Below.refl w1.heap.size w1).alloc (Nat.le_refl _) _).trans (hb2.mono (by simp)) |>.mono HB1.out.size))
  clear hb2
  generalize joinS [5] = j0 at *
  have hcat : ¬ 9223372036854775807 < j0.size + (joinS [a]).size := by omega
  have HI : Hid (Ints ((w2.alloc (.cells #[.int .i64 a] 99)).alloc (.cells #[.int .i64 a] 3)) (.slice (some ⟨w2.heap.size + 1, 0, none⟩) 1 1) [a]) := Lib.hid (ints_at _ _ 1 [a] (by simp) rfl (by omega))
  go_wp2_with fail
  refine (ei_any _ [a] _ HI.out (by simp)).mono ?_
  rintro e w3 ⟨rfl, hb3⟩
  have HB3 := Lib.hid (HB2.out.trans ((((Below.refl w2.heap.size w2).alloc (Nat.le_refl _) _).alloc (by simp) _).trans (hb3.mono (by simp; omega)) |>.mono HB2.out.size))
  clear hb3
  go_wp2_with fail
  go_ret
  exact ⟨rfl, HB3.out⟩

set_option maxRecDepth 100000 in
set_option maxHeartbeats 1000000 in
theorem enb_6 (a : Int) (w : World) : Calls Try.prog 38 #[.iface 100 (.agg #[.int .i64 a])] w (EncPost w (joinS [6] ++ joinS [a])) := by
  have HF := Lib.hid (fun W => frame_6 a W)
  unfold frV at HF
  have hfl := fun (W : World) (x1 x2 x3 x4 x5 : Value) => (show Sem.run Try.prog (Instr.field 29 (.agg #[.int .i64 6, x1, x2, x3, x4, x5]) 0) W = .ok (.int .i64 6) W by rfl)
  have ta0 := fun (W : World) (x : Value) => (show Sem.run Try.prog (Instr.typeAssert (.iface 100 x) 53 80 true) W = .ok (.tuple #[.agg #[.int .i64 0, .slice none 0 0], .bool false]) W by rfl)
  have ta1 := fun (W : World) (x : Value) => (show Sem.run Try.prog (Instr.typeAssert (.iface 100 x) 53 94 true) W = .ok (.tuple #[.agg #[.int .i64 0, .int .i64 0, .int .i64 0, .string ⟨#[]⟩], .bool false]) W by rfl)
  have ta2 := fun (W : World) (x : Value) => (show Sem.run Try.prog (Instr.typeAssert (.iface 100 x) 53 97 true) W = .ok (.tuple #[.agg #[.int .i64 0, .int .i64 0], .bool false]) W by rfl)
  have ta3 := fun (W : World) (x : Value) => (show Sem.run Try.prog (Instr.typeAssert (.iface 100 x) 53 99 true) W = .ok (.tuple #[.agg #[.int .i64 0], .bool false]) W by rfl)
  have ta4 := fun (W : World) (x : Value) => (show Sem.run Try.prog (Instr.typeAssert (.iface 100 x) 53 100 true) W = .ok (.tuple #[x, .bool true]) W by rfl)
  have hs1 := jsz [a] 1 rfl
  have hs0 := jsz [6] 1 rfl
  go_enter Try.func38, Try.ntmps38
  go_wp2_with fail
  refine (HF.out _).mono ?_
  rintro e w1 ⟨rfl, hb1⟩
  have HB1 := Lib.hid hb1
  clear hb1
  go_wp2_with fail
  refine (ei_any _ [6] _ (ints_at w1 _ 1 [6] rfl rfl (by omega)) (by simp)).mono ?_
  rintro e w2 ⟨rfl, hb2⟩
  have HB2 := Lib.hid (HB1.out.trans (((Below.refl w1.heap.size w1).alloc (Nat.le_refl _) _).trans (hb2.mono (by simp)) |>.mono HB1.out.size))
  clear hb2
  generalize joinS [6] = j0 at *
  have hcat : ¬ 9223372036854775807 < j0.size + (joinS [a]).size := by omega
  have HI : Hid (Ints ((w2.alloc (.cells #[.int .i64 a] 100)).alloc (.cells #[.int .i64 a] 3)) (.slice (some ⟨w2.heap.size + 1, 0, none⟩) 1 1) [a]) := Lib.hid (ints_at _ _ 1 [a] (by simp) rfl (by omega))
  go_wp2_with fail
  refine (ei_any _ [a] _ HI.out (by simp)).mono ?_
  rintro e w3 ⟨rfl, hb3⟩
  have HB3 := Lib.hid (HB2.out.trans ((((Below.refl w2.heap.size w2).alloc (Nat.le_refl _) _).alloc (by simp) _).trans (hb3.mono (by simp; omega)) |>.mono HB2.out.size))
  clear hb3
  go_wp2_with fail
  go_ret
  exact ⟨rfl, HB3.out⟩

set_option maxRecDepth 100000 in
set_option maxHeartbeats 1000000 in
theorem enb_7 (a b : Int) (w : World) : Calls Try.prog 38 #[.iface 102 (.agg #[.int .i64 a, .int .i64 b])] w (EncPost w (joinS [7] ++ joinS [a, b])) := by
  have HF := Lib.hid (fun W => frame_7 a b W)
  unfold frV at HF
  have hfl := fun (W : World) (x1 x2 x3 x4 x5 : Value) => (show Sem.run Try.prog (Instr.field 29 (.agg #[.int .i64 7, x1, x2, x3, x4, x5]) 0) W = .ok (.int .i64 7) W by rfl)
  have ta0 := fun (W : World) (x : Value) => (show Sem.run Try.prog (Instr.typeAssert (.iface 102 x) 53 80 true) W = .ok (.tuple #[.agg #[.int .i64 0, .slice none 0 0], .bool false]) W by rfl)
  have ta1 := fun (W : World) (x : Value) => (show Sem.run Try.prog (Instr.typeAssert (.iface 102 x) 53 94 true) W = .ok (.tuple #[.agg #[.int .i64 0, .int .i64 0, .int .i64 0, .string ⟨#[]⟩], .bool false]) W by rfl)
  have ta2 := fun (W : World) (x : Value) => (show Sem.run Try.prog (Instr.typeAssert (.iface 102 x) 53 97 true) W = .ok (.tuple #[.agg #[.int .i64 0, .int .i64 0], .bool false]) W by rfl)
  have ta3 := fun (W : World) (x : Value) => (show Sem.run Try.prog (Instr.typeAssert (.iface 102 x) 53 99 true) W = .ok (.tuple #[.agg #[.int .i64 0], .bool false]) W by rfl)
  have ta4 := fun (W : World) (x : Value) => (show Sem.run Try.prog (Instr.typeAssert (.iface 102 x) 53 100 true) W = .ok (.tuple #[.agg #[.int .i64 0], .bool false]) W by rfl)
  have ta5 := fun (W : World) (x : Value) => (show Sem.run Try.prog (Instr.typeAssert (.iface 102 x) 53 102 true) W = .ok (.tuple #[x, .bool true]) W by rfl)
  have hs1 := jsz [a, b] 2 rfl
  have hs0 := jsz [7] 1 rfl
  go_enter Try.func38, Try.ntmps38
  go_wp2_with fail
  refine (HF.out _).mono ?_
  rintro e w1 ⟨rfl, hb1⟩
  have HB1 := Lib.hid hb1
  clear hb1
  go_wp2_with fail
  refine (ei_any _ [7] _ (ints_at w1 _ 1 [7] rfl rfl (by omega)) (by simp)).mono ?_
  rintro e w2 ⟨rfl, hb2⟩
  have HB2 := Lib.hid (HB1.out.trans (((Below.refl w1.heap.size w1).alloc (Nat.le_refl _) _).trans (hb2.mono (by simp)) |>.mono HB1.out.size))
  clear hb2
  generalize joinS [7] = j0 at *
  have hcat : ¬ 9223372036854775807 < j0.size + (joinS [a, b]).size := by omega
  have HI : Hid (Ints ((w2.alloc (.cells #[.int .i64 a, .int .i64 b] 102)).alloc (.cells #[.int .i64 a, .int .i64 b] 3)) (.slice (some ⟨w2.heap.size + 1, 0, none⟩) 2 2) [a, b]) := Lib.hid (ints_at _ _ 2 [a, b] (by simp) rfl (by omega))
  go_wp2_with fail
  refine (ei_any _ [a, b] _ HI.out (by simp)).mono ?_
  rintro e w3 ⟨rfl, hb3⟩
  have HB3 := Lib.hid (HB2.out.trans ((((Below.refl w2.heap.size w2).alloc (Nat.le_refl _) _).alloc (by simp) _).trans (hb3.mono (by simp; omega)) |>.mono HB2.out.size))
  clear hb3
  go_wp2_with fail
  go_ret
  exact ⟨rfl, HB3.out⟩

set_option maxRecDepth 100000 in
set_option maxHeartbeats 1000000 in
theorem enb_8 (a : Int) (w : World) : Calls Try.prog 38 #[.iface 104 (.agg #[.int .i64 a])] w (EncPost w (joinS [8] ++ joinS [a])) := by
  have HF := Lib.hid (fun W => frame_8 a W)
  unfold frV at HF
  have hfl := fun (W : World) (x1 x2 x3 x4 x5 : Value) => (show Sem.run Try.prog (Instr.field 29 (.agg #[.int .i64 8, x1, x2, x3, x4, x5]) 0) W = .ok (.int .i64 8) W by rfl)
  have ta0 := fun (W : World) (x : Value) => (show Sem.run Try.prog (Instr.typeAssert (.iface 104 x) 53 80 true) W = .ok (.tuple #[.agg #[.int .i64 0, .slice none 0 0], .bool false]) W by rfl)
  have ta1 := fun (W : World) (x : Value) => (show Sem.run Try.prog (Instr.typeAssert (.iface 104 x) 53 94 true) W = .ok (.tuple #[.agg #[.int .i64 0, .int .i64 0, .int .i64 0, .string ⟨#[]⟩], .bool false]) W by rfl)
  have ta2 := fun (W : World) (x : Value) => (show Sem.run Try.prog (Instr.typeAssert (.iface 104 x) 53 97 true) W = .ok (.tuple #[.agg #[.int .i64 0, .int .i64 0], .bool false]) W by rfl)
  have ta3 := fun (W : World) (x : Value) => (show Sem.run Try.prog (Instr.typeAssert (.iface 104 x) 53 99 true) W = .ok (.tuple #[.agg #[.int .i64 0], .bool false]) W by rfl)
  have ta4 := fun (W : World) (x : Value) => (show Sem.run Try.prog (Instr.typeAssert (.iface 104 x) 53 100 true) W = .ok (.tuple #[.agg #[.int .i64 0], .bool false]) W by rfl)
  have ta5 := fun (W : World) (x : Value) => (show Sem.run Try.prog (Instr.typeAssert (.iface 104 x) 53 102 true) W = .ok (.tuple #[.agg #[.int .i64 0, .int .i64 0], .bool false]) W by rfl)
  have ta6 := fun (W : World) (x : Value) => (show Sem.run Try.prog (Instr.typeAssert (.iface 104 x) 53 104 true) W = .ok (.tuple #[x, .bool true]) W by rfl)
  have hs1 := jsz [a] 1 rfl
  have hs0 := jsz [8] 1 rfl
  go_enter Try.func38, Try.ntmps38
  go_wp2_with fail
  refine (HF.out _).mono ?_
  rintro e w1 ⟨rfl, hb1⟩
  have HB1 := Lib.hid hb1
  clear hb1
  go_wp2_with fail
  refine (ei_any _ [8] _ (ints_at w1 _ 1 [8] rfl rfl (by omega)) (by simp)).mono ?_
  rintro e w2 ⟨rfl, hb2⟩
  have HB2 := Lib.hid (HB1.out.trans (((Below.refl w1.heap.size w1).alloc (Nat.le_refl _) _).trans (hb2.mono (by simp)) |>.mono HB1.out.size))
  clear hb2
  generalize joinS [8] = j0 at *
  have hcat : ¬ 9223372036854775807 < j0.size + (joinS [a]).size := by omega
  have HI : Hid (Ints ((w2.alloc (.cells #[.int .i64 a] 104)).alloc (.cells #[.int .i64 a] 3)) (.slice (some ⟨w2.heap.size + 1, 0, none⟩) 1 1) [a]) := Lib.hid (ints_at _ _ 1 [a] (by simp) rfl (by omega))
  go_wp2_with fail
  refine (ei_any _ [a] _ HI.out (by simp)).mono ?_
  rintro e w3 ⟨rfl, hb3⟩
  have HB3 := Lib.hid (HB2.out.trans ((((Below.refl w2.heap.size w2).alloc (Nat.le_refl _) _).alloc (by simp) _).trans (hb3.mono (by simp; omega)) |>.mono HB2.out.size))
  clear hb3
  go_wp2_with fail
  go_ret
  exact ⟨rfl, HB3.out⟩

set_option maxRecDepth 100000 in
set_option maxHeartbeats 1000000 in
theorem enb_9 (d : ByteArray) (w : World) (hd : d.size ≤ 2097152) : Calls Try.prog 38 #[.iface 106 (.agg #[.string d])] w (EncPost w (joinS [9] ++ (joinS [(d.size : Int)] ++ d))) := by
  have HF := Lib.hid (fun W => frame_9 d W)
  unfold frV at HF
  have hfl := fun (W : World) (x1 x2 x3 x4 x5 : Value) => (show Sem.run Try.prog (Instr.field 29 (.agg #[.int .i64 9, x1, x2, x3, x4, x5]) 0) W = .ok (.int .i64 9) W by rfl)
  have ta0 := fun (W : World) (x : Value) => (show Sem.run Try.prog (Instr.typeAssert (.iface 106 x) 53 80 true) W = .ok (.tuple #[.agg #[.int .i64 0, .slice none 0 0], .bool false]) W by rfl)
  have ta1 := fun (W : World) (x : Value) => (show Sem.run Try.prog (Instr.typeAssert (.iface 106 x) 53 94 true) W = .ok (.tuple #[.agg #[.int .i64 0, .int .i64 0, .int .i64 0, .string ⟨#[]⟩], .bool false]) W by rfl)
  have ta2 := fun (W : World) (x : Value) => (show Sem.run Try.prog (Instr.typeAssert (.iface 106 x) 53 97 true) W = .ok (.tuple #[.agg #[.int .i64 0, .int .i64 0], .bool false]) W by rfl)
  have ta3 := fun (W : World) (x : Value) => (show Sem.run Try.prog (Instr.typeAssert (.iface 106 x) 53 99 true) W = .ok (.tuple #[.agg #[.int .i64 0], .bool false]) W by rfl)
  have ta4 := fun (W : World) (x : Value) => (show Sem.run Try.prog (Instr.typeAssert (.iface 106 x) 53 100 true) W = .ok (.tuple #[.agg #[.int .i64 0], .bool false]) W by rfl)
  have ta5 := fun (W : World) (x : Value) => (show Sem.run Try.prog (Instr.typeAssert (.iface 106 x) 53 102 true) W = .ok (.tuple #[.agg #[.int .i64 0, .int .i64 0], .bool false]) W by rfl)
  have ta6 := fun (W : World) (x : Value) => (show Sem.run Try.prog (Instr.typeAssert (.iface 106 x) 53 104 true) W = .ok (.tuple #[.agg #[.int .i64 0], .bool false]) W by rfl)
  have ta7 := fun (W : World) (x : Value) => (show Sem.run Try.prog (Instr.typeAssert (.iface 106 x) 53 106 true) W = .ok (.tuple #[x, .bool true]) W by rfl)
  have hs1 := jsz [(d.size : Int)] 1 rfl
  have hs0 := jsz [9] 1 rfl
  go_enter Try.func38, Try.ntmps38
  go_wp2_with fail
  refine (HF.out _).mono ?_
  rintro e w1 ⟨rfl, hb1⟩
  have HB1 := Lib.hid hb1
  clear hb1
  go_wp2_with fail
  refine (ei_any _ [9] _ (ints_at w1 _ 1 [9] rfl rfl (by omega)) (by simp)).mono ?_
  rintro e w2 ⟨rfl, hb2⟩
  have HB2 := Lib.hid (HB1.out.trans (((Below.refl w1.heap.size w1).alloc (Nat.le_refl _) _).trans (hb2.mono (by simp)) |>.mono HB1.out.size))
  clear hb2
  generalize joinS [9] = j0 at *
  have hcat : ¬ 9223372036854775807 < j0.size + (joinS [(d.size : Int)] ++ d).size := by rw [size_app]; omega
  have HD := Lib.hid (fun W => ed_any d W hd)
  generalize joinS [(d.size : Int)] ++ d = jd at *
  go_wp2_with fail
  refine (HD.out _).mono ?_
  rintro e w3 ⟨rfl, hb3⟩
  have HB3 := Lib.hid (HB2.out.trans (((Below.refl w2.heap.size w2).alloc (Nat.le_refl _) _).trans (hb3.mono (by simp)) |>.mono HB2.out.size))
  clear hb3
  go_wp2_with fail
  go_ret
  exact ⟨rfl, HB3.out⟩

set_option maxRecDepth 100000 in
set_option maxHeartbeats 1000000 in
theorem enb_10 (a : Int) (w : World) : Calls Try.prog 38 #[.iface 82 (.agg #[.int .i64 a])] w (EncPost w (joinS [10] ++ joinS [a])) := by
  have HF := Lib.hid (fun W => frame_10 a W)
  unfold frV at HF
  have hfl := fun (W : World) (x1 x2 x3 x4 x5 : Value) => (show Sem.run Try.prog (Instr.field 29 (.agg #[.int .i64 10, x1, x2, x3, x4, x5]) 0) W = .ok (.int .i64 10) W by rfl)
  have ta0 := fun (W : World) (x : Value) => (show Sem.run Try.prog (Instr.typeAssert (.iface 82 x) 53 80 true) W = .ok (.tuple #[.agg #[.int .i64 0, .slice none 0 0], .bool false]) W by rfl)
  have ta1 := fun (W : World) (x : Value) => (show Sem.run Try.prog (Instr.typeAssert (.iface 82 x) 53 94 true) W = .ok (.tuple #[.agg #[.int .i64 0, .int .i64 0, .int .i64 0, .string ⟨#[]⟩], .bool false]) W by rfl)
  have ta2 := fun (W : World) (x : Value) => (show Sem.run Try.prog (Instr.typeAssert (.iface 82 x) 53 97 true) W = .ok (.tuple #[.agg #[.int .i64 0, .int .i64 0], .bool false]) W by rfl)
  have ta3 := fun (W : World) (x : Value) => (show Sem.run Try.prog (Instr.typeAssert (.iface 82 x) 53 99 true) W = .ok (.tuple #[.agg #[.int .i64 0], .bool false]) W by rfl)
  have ta4 := fun (W : World) (x : Value) => (show Sem.run Try.prog (Instr.typeAssert (.iface 82 x) 53 100 true) W = .ok (.tuple #[.agg #[.int .i64 0], .bool false]) W by rfl)
  have ta5 := fun (W : World) (x : Value) => (show Sem.run Try.prog (Instr.typeAssert (.iface 82 x) 53 102 true) W = .ok (.tuple #[.agg #[.int .i64 0, .int .i64 0], .bool false]) W by rfl)
  have ta6 := fun (W : World) (x : Value) => (show Sem.run Try.prog (Instr.typeAssert (.iface 82 x) 53 104 true) W = .ok (.tuple #[.agg #[.int .i64 0], .bool false]) W by rfl)
  have ta7 := fun (W : World) (x : Value) => (show Sem.run Try.prog (Instr.typeAssert (.iface 82 x) 53 106 true) W = .ok (.tuple #[.agg #[.string ⟨#[]⟩], .bool false]) W by rfl)
  have ta8 := fun (W : World) (x : Value) => (show Sem.run Try.prog (Instr.typeAssert (.iface 82 x) 53 82 true) W = .ok (.tuple #[x, .bool true]) W by rfl)
  have hs1 := jsz [a] 1 rfl
  have hs0 := jsz [10] 1 rfl
  go_enter Try.func38, Try.ntmps38
  go_wp2_with fail
  refine (HF.out _).mono ?_
  rintro e w1 ⟨rfl, hb1⟩
  have HB1 := Lib.hid hb1
  clear hb1
  go_wp2_with fail
  refine (ei_any _ [10] _ (ints_at w1 _ 1 [10] rfl rfl (by omega)) (by simp)).mono ?_
  rintro e w2 ⟨rfl, hb2⟩
  have HB2 := Lib.hid (HB1.out.trans (((Below.refl w1.heap.size w1).alloc (Nat.le_refl _) _).trans (hb2.mono (by simp)) |>.mono HB1.out.size))
  clear hb2
  generalize joinS [10] = j0 at *
  have hcat : ¬ 9223372036854775807 < j0.size + (joinS [a]).size := by omega
  have HI : Hid (Ints ((w2.alloc (.cells #[.int .i64 a] 82)).alloc (.cells #[.int .i64 a] 3)) (.slice (some ⟨w2.heap.size + 1, 0, none⟩) 1 1) [a]) := Lib.hid (ints_at _ _ 1 [a] (by simp) rfl (by omega))
  go_wp2_with fail
  refine (ei_any _ [a] _ HI.out (by simp)).mono ?_
  rintro e w3 ⟨rfl, hb3⟩
  have HB3 := Lib.hid (HB2.out.trans ((((Below.refl w2.heap.size w2).alloc (Nat.le_refl _) _).alloc (by simp) _).trans (hb3.mono (by simp; omega)) |>.mono HB2.out.size))
  clear hb3
  go_wp2_with fail
  go_ret
  exact ⟨rfl, HB3.out⟩

set_option maxRecDepth 100000 in
set_option maxHeartbeats 1000000 in
theorem enb_3 (a b c : Int) (d : ByteArray) (w : World) (hd : d.size ≤ 2097152) : Calls Try.prog 38 #[.iface 94 (.agg #[.int .i64 a, .int .i64 b, .int .i64 c, .string d])] w (EncPost w (joinS [3] ++ joinS [a, b, c] ++ (joinS [(d.size : Int)] ++ d))) := by
  have HF := Lib.hid (fun W => frame_3 a b c d W)
  unfold frV at HF
  have hfl := fun (W : World) (x1 x2 x3 x4 x5 : Value) => (show Sem.run Try.prog (Instr.field 29 (.agg #[.int .i64 3, x1, x2, x3, x4, x5]) 0) W = .ok (.int .i64 3) W by rfl)
  have ta0 := fun (W : World) (x : Value) => (show Sem.run Try.prog (Instr.typeAssert (.iface 94 x) 53 80 true) W = .ok (.tuple #[.agg #[.int .i64 0, .slice none 0 0], .bool false]) W by rfl)
  have ta1 := fun (W : World) (x : Value) => (show Sem.run Try.prog (Instr.typeAssert (.iface 94 x) 53 94 true) W = .ok (.tuple #[x, .bool true]) W by rfl)
  have hs1 := jsz [a, b, c] 3 rfl
  have hs0 := jsz [3] 1 rfl
  go_enter Try.func38, Try.ntmps38
  go_wp2_with fail
  refine (HF.out _).mono ?_
  rintro e w1 ⟨rfl, hb1⟩
  have HB1 := Lib.hid hb1
  clear hb1
  go_wp2_with fail
  refine (ei_any _ [3] _ (ints_at w1 _ 1 [3] rfl rfl (by omega)) (by simp)).mono ?_
  rintro e w2 ⟨rfl, hb2⟩
  have HB2 := Lib.hid (HB1.out.trans (((Below.refl w1.heap.size w1).alloc (Nat.le_refl _) _).trans (hb2.mono (by simp)) |>.mono HB1.out.size))
  clear hb2
  have PW : Hid ((w2.alloc (.cells #[.int .i64 a, .int .i64 b, .int .i64 c, .string d] 94)).cell? ⟨w2.heap.size, 0, none⟩ = some (.int .i64 a) ∧ (w2.alloc (.cells #[.int .i64 a, .int .i64 b, .int .i64 c, .string d] 94)).cell? ⟨w2.heap.size, 1, none⟩ = some (.int .i64 b) ∧ (w2.alloc (.cells #[.int .i64 a, .int .i64 b, .int .i64 c, .string d] 94)).cell? ⟨w2.heap.size, 2, none⟩ = some (.int .i64 c) ∧ (w2.alloc (.cells #[.int .i64 a, .int .i64 b, .int .i64 c, .string d] 94)).cell? ⟨w2.heap.size, 3, none⟩ = some (.string d)) := Lib.hid (by
    have h := cell_lit w2 94 [.int .i64 a, .int .i64 b, .int .i64 c, .string d]
    exact ⟨h 0, h 1, h 2, h 3⟩)
  have BW : Hid (Below w2.heap.size w2 (w2.alloc (.cells #[.int .i64 a, .int .i64 b, .int .i64 c, .string d] 94))) := Lib.hid ((Below.refl _ _).alloc (Nat.le_refl _) _)
  have SW : Hid (w2.heap.size < (w2.alloc (.cells #[.int .i64 a, .int .i64 b, .int .i64 c, .string d] 94)).heap.size) := Lib.hid (by simp)
  have hs2 := jsz [(d.size : Int)] 1 rfl
  generalize joinS [3] = j0 at *
  have hcat1 : ¬ 9223372036854775807 < j0.size + (joinS [a, b, c]).size := by omega
  have hcat2 : ¬ 9223372036854775807 < (j0 ++ joinS [a, b, c]).size + (joinS [(d.size : Int)] ++ d).size := by rw [size_app, size_app]; omega
  have hcat3 : ¬ 9223372036854775807 < j0.size + (joinS [a, b, c]).size + (joinS [(d.size : Int)] ++ d).size := by rw [size_app]; omega
  have HD := Lib.hid (fun W => ed_any d W hd)
  generalize joinS [(d.size : Int)] ++ d = jd at *
  go_wp2_with fail
  generalize w2.alloc (.cells #[.int .i64 a, .int .i64 b, .int .i64 c, .string d] 94) = W at *
  have D0 : Hid (W.drew.cell? ⟨w2.heap.size, 0, none⟩ = some (.int .i64 a) ∧ W.drew.cell? ⟨w2.heap.size, 1, none⟩ = some (.int .i64 b) ∧ W.drew.cell? ⟨w2.heap.size, 2, none⟩ = some (.int .i64 c) ∧ W.drew.cell? ⟨w2.heap.size, 3, none⟩ = some (.string d)) := Lib.hid PW.out
  have KAL : Hid (∀ o, (W.drew.alloc o).cell? ⟨w2.heap.size, 0, none⟩ = some (.int .i64 a) ∧ (W.drew.alloc o).cell? ⟨w2.heap.size, 1, none⟩ = some (.int .i64 b) ∧ (W.drew.alloc o).cell? ⟨w2.heap.size, 2, none⟩ = some (.int .i64 c) ∧ (W.drew.alloc o).cell? ⟨w2.heap.size, 3, none⟩ = some (.string d)) := Lib.hid (fun o => by
    have hb : Below W.drew.heap.size W.drew (W.drew.alloc o) := (Below.refl _ _).alloc (Nat.le_refl _) _
    obtain ⟨q0, q1, q2, q3⟩ := D0.out
    exact ⟨(hb.cell (p := ⟨w2.heap.size, 0, none⟩) SW.out).trans q0, (hb.cell (p := ⟨w2.heap.size, 1, none⟩) SW.out).trans q1, (hb.cell (p := ⟨w2.heap.size, 2, none⟩) SW.out).trans q2, (hb.cell (p := ⟨w2.heap.size, 3, none⟩) SW.out).trans q3⟩)
  have HI : Hid (Ints (W.drew.alloc (.cells #[.int .i64 a, .int .i64 b, .int .i64 c] 3)) (.slice (some ⟨W.heap.size, 0, none⟩) 3 3) [a, b, c]) := Lib.hid (ints_at W.drew _ 3 [a, b, c] rfl rfl (by omega))
  obtain ⟨p0, p1, p2, p3⟩ := PW.out
  go_region_held3 (fun w' => w'.cell? ⟨w2.heap.size, 0, none⟩ = some (.int .i64 a) ∧ w'.cell? ⟨w2.heap.size, 1, none⟩ = some (.int .i64 b) ∧ w'.cell? ⟨w2.heap.size, 2, none⟩ = some (.int .i64 c) ∧ w'.cell? ⟨w2.heap.size, 3, none⟩ = some (.string d)) (first | assumption | exact D0.out | exact KAL.out _ | exact k3 | exact k4)
    (first
      | (go_at_call 53; refine (ei_any _ [a, b, c] _ HI.out (by simp)).mono ?_; rintro e w3 ⟨rfl, hb3⟩; have hbw3 : Below W.drew.heap.size W.drew w3 := (((Below.refl W.drew.heap.size W.drew).alloc (Nat.le_refl _) _).trans (hb3.mono (by simp))); have k3 : w3.cell? ⟨w2.heap.size, 0, none⟩ = some (.int .i64 a) ∧ w3.cell? ⟨w2.heap.size, 1, none⟩ = some (.int .i64 b) ∧ w3.cell? ⟨w2.heap.size, 2, none⟩ = some (.int .i64 c) ∧ w3.cell? ⟨w2.heap.size, 3, none⟩ = some (.string d) := ⟨(hbw3.cell (p := ⟨w2.heap.size, 0, none⟩) SW.out).trans p0, (hbw3.cell (p := ⟨w2.heap.size, 1, none⟩) SW.out).trans p1, (hbw3.cell (p := ⟨w2.heap.size, 2, none⟩) SW.out).trans p2, (hbw3.cell (p := ⟨w2.heap.size, 3, none⟩) SW.out).trans p3⟩)
      | (go_at_call 55; refine (HD.out _).mono ?_; rintro e w4 ⟨rfl, hb4⟩; have k4 : w4.cell? ⟨w2.heap.size, 0, none⟩ = some (.int .i64 a) ∧ w4.cell? ⟨w2.heap.size, 1, none⟩ = some (.int .i64 b) ∧ w4.cell? ⟨w2.heap.size, 2, none⟩ = some (.int .i64 c) ∧ w4.cell? ⟨w2.heap.size, 3, none⟩ = some (.string d) := ⟨(hb4.cell (p := ⟨w2.heap.size, 0, none⟩) (Nat.lt_of_lt_of_le SW.out hbw3.size)).trans k3.1, (hb4.cell (p := ⟨w2.heap.size, 1, none⟩) (Nat.lt_of_lt_of_le SW.out hbw3.size)).trans k3.2.1, (hb4.cell (p := ⟨w2.heap.size, 2, none⟩) (Nat.lt_of_lt_of_le SW.out hbw3.size)).trans k3.2.2.1, (hb4.cell (p := ⟨w2.heap.size, 3, none⟩) (Nat.lt_of_lt_of_le SW.out hbw3.size)).trans k3.2.2.2⟩))
  have HB4 := Lib.hid (HB2.out.trans (((BW.out.drew.trans ((hbw3.trans (hb4.mono hbw3.size)).mono BW.out.drew.size))).mono HB2.out.size))
  clear hb3 hb4 k3 k4 hbw3
  go_wp2_with fail
  go_ret
  exact ⟨rfl, HB4.out⟩

set_option maxRecDepth 100000 in
set_option maxHeartbeats 1000000 in
theorem enb_2 (a : Int) (ra : Option Addr) (rc : Nat) (rs : List (Int × Int)) (w : World) (HR : Hid (Rngs w (.slice ra rs.length rc) rs)) (hr16 : rs.length ≤ 16) (HM : Hid (∀ r ∈ rs, 0 ≤ r.1 ∧ r.1 ≤ r.2 ∧ r.2 ≤ 999)) : Calls Try.prog 38 #[.iface 80 (.agg #[.int .i64 a, .slice ra rs.length rc])] w (EncPost w (joinS [2] ++ joinS [a] ++ joinS ((rs.length : Int) :: deltas (-2) rs))) := by
  have HF := Lib.hid (fun W => frame_2 a ra rs.length rc W)
  unfold frV at HF
  have hfl := fun (W : World) (x1 x2 x3 x4 x5 : Value) => (show Sem.run Try.prog (Instr.field 29 (.agg #[.int .i64 2, x1, x2, x3, x4, x5]) 0) W = .ok (.int .i64 2) W by rfl)
  have ta0 := fun (W : World) (x : Value) => (show Sem.run Try.prog (Instr.typeAssert (.iface 80 x) 53 80 true) W = .ok (.tuple #[x, .bool true]) W by rfl)
  have hs1 := jsz [a] 1 rfl
  have hs0 := jsz [2] 1 rfl
  go_enter Try.func38, Try.ntmps38
  go_wp2_with fail
  refine (HF.out _).mono ?_
  rintro e w1 ⟨rfl, hb1⟩
  have HB1 := Lib.hid hb1
  clear hb1
  go_wp2_with fail
  refine (ei_any _ [2] _ (ints_at w1 _ 1 [2] rfl rfl (by omega)) (by simp)).mono ?_
  rintro e w2 ⟨rfl, hb2⟩
  have HB2 := Lib.hid (HB1.out.trans (((Below.refl w1.heap.size w1).alloc (Nat.le_refl _) _).trans (hb2.mono (by simp)) |>.mono HB1.out.size))
  clear hb2
  have PW : Hid ((w2.alloc (.cells #[.int .i64 a, .slice ra rs.length rc] 80)).cell? ⟨w2.heap.size, 0, none⟩ = some (.int .i64 a) ∧ (w2.alloc (.cells #[.int .i64 a, .slice ra rs.length rc] 80)).cell? ⟨w2.heap.size, 1, none⟩ = some (.slice ra rs.length rc)) := Lib.hid (by
    have h := cell_lit w2 80 [.int .i64 a, .slice ra rs.length rc]
    exact ⟨h 0, h 1⟩)
  have BW : Hid (Below w2.heap.size w2 (w2.alloc (.cells #[.int .i64 a, .slice ra rs.length rc] 80))) := Lib.hid ((Below.refl _ _).alloc (Nat.le_refl _) _)
  have SW : Hid (w2.heap.size < (w2.alloc (.cells #[.int .i64 a, .slice ra rs.length rc] 80)).heap.size) := Lib.hid (by simp)
  have hs2 := jsz ((rs.length : Int) :: deltas (-2) rs) (2 * rs.length + 1) (by rw [List.length_cons, deltas_len])
  generalize joinS [2] = j0 at *
  have hcat1 : ¬ 9223372036854775807 < j0.size + (joinS [a]).size := by omega
  have hcat2 : ¬ 9223372036854775807 < (j0 ++ joinS [a]).size + (joinS ((rs.length : Int) :: deltas (-2) rs)).size := by rw [size_app]; omega
  have hcat3 : ¬ 9223372036854775807 < j0.size + (joinS [a]).size + (joinS ((rs.length : Int) :: deltas (-2) rs)).size := by omega
  have HD := Lib.hid (fun W h => er_any (.slice ra rs.length rc) rs W h hr16 HM.out)
  generalize joinS ((rs.length : Int) :: deltas (-2) rs) = jd at *
  have HR2 : Hid (Rngs (w2.alloc (.cells #[.int .i64 a, .slice ra rs.length rc] 80)).drew (.slice ra rs.length rc) rs) := Lib.hid (HR.out.below (HB2.out.trans (BW.out.drew.mono HB2.out.size)))
  go_wp2_with fail
  generalize w2.alloc (.cells #[.int .i64 a, .slice ra rs.length rc] 80) = W at *
  have D0 : Hid (W.drew.cell? ⟨w2.heap.size, 0, none⟩ = some (.int .i64 a) ∧ W.drew.cell? ⟨w2.heap.size, 1, none⟩ = some (.slice ra rs.length rc)) := Lib.hid PW.out
  have KAL : Hid (∀ o, (W.drew.alloc o).cell? ⟨w2.heap.size, 0, none⟩ = some (.int .i64 a) ∧ (W.drew.alloc o).cell? ⟨w2.heap.size, 1, none⟩ = some (.slice ra rs.length rc)) := Lib.hid (fun o => by
    have hb : Below W.drew.heap.size W.drew (W.drew.alloc o) := (Below.refl _ _).alloc (Nat.le_refl _) _
    obtain ⟨q0, q1⟩ := D0.out
    exact ⟨(hb.cell (p := ⟨w2.heap.size, 0, none⟩) SW.out).trans q0, (hb.cell (p := ⟨w2.heap.size, 1, none⟩) SW.out).trans q1⟩)
  have HI : Hid (Ints (W.drew.alloc (.cells #[.int .i64 a] 3)) (.slice (some ⟨W.heap.size, 0, none⟩) 1 1) [a]) := Lib.hid (ints_at W.drew _ 1 [a] rfl rfl (by omega))
  obtain ⟨p0, p1⟩ := PW.out
  go_region_held3 (fun w' => w'.cell? ⟨w2.heap.size, 0, none⟩ = some (.int .i64 a) ∧ w'.cell? ⟨w2.heap.size, 1, none⟩ = some (.slice ra rs.length rc)) (first | assumption | exact D0.out | exact KAL.out _ | exact k3 | exact k4)
    (first
      | (go_at_call 53; refine (ei_any _ [a] _ HI.out (by simp)).mono ?_; rintro e w3 ⟨rfl, hb3⟩; have hbw3 : Below W.drew.heap.size W.drew w3 := (((Below.refl W.drew.heap.size W.drew).alloc (Nat.le_refl _) _).trans (hb3.mono (by simp))); have k3 : w3.cell? ⟨w2.heap.size, 0, none⟩ = some (.int .i64 a) ∧ w3.cell? ⟨w2.heap.size, 1, none⟩ = some (.slice ra rs.length rc) := ⟨(hbw3.cell (p := ⟨w2.heap.size, 0, none⟩) SW.out).trans p0, (hbw3.cell (p := ⟨w2.heap.size, 1, none⟩) SW.out).trans p1⟩)
      | (go_at_call 54; refine (HD.out _ (HR2.out.below (hbw3.mono (Nat.le_refl _)))).mono ?_; rintro e w4 ⟨rfl, hb4⟩; have k4 : w4.cell? ⟨w2.heap.size, 0, none⟩ = some (.int .i64 a) ∧ w4.cell? ⟨w2.heap.size, 1, none⟩ = some (.slice ra rs.length rc) := ⟨(hb4.cell (p := ⟨w2.heap.size, 0, none⟩) (Nat.lt_of_lt_of_le SW.out hbw3.size)).trans k3.1, (hb4.cell (p := ⟨w2.heap.size, 1, none⟩) (Nat.lt_of_lt_of_le SW.out hbw3.size)).trans k3.2⟩))
  have HB4 := Lib.hid (HB2.out.trans (((BW.out.drew.trans ((hbw3.trans (hb4.mono hbw3.size)).mono BW.out.drew.size))).mono HB2.out.size))
  clear hb3 hb4 k3 k4 hbw3
  go_wp2_with fail
  go_ret
  exact ⟨rfl, HB4.out⟩

theorem enc_as {w : World} {s t : ByteArray} {n : Nat} {args : Array Value} (h : Calls Try.prog n args w (EncPost w s)) (e : s = t) : Calls Try.prog n args w (EncPost w t) := e ▸ h
theorem enb_any (f : Fr) (ra : Option Addr) (rc : Nat) (w : World) (HR : Hid (Rngs w (.slice ra f.rs.length rc) f.rs)) (hf : fok f = true) :
    Calls Try.prog 38 #[bodyV f (.slice ra f.rs.length rc)] w (EncPost w (fenc f)) := by
  have hk := fok_k hf
  have hb := fok_bnd hf
  have hc := fok_cases hf
  obtain ⟨k, a, b, c, d, rs⟩ := f
  simp only at hk hb hc HR
  have : k = 0 ∨ k = 1 ∨ k = 2 ∨ k = 3 ∨ k = 4 ∨ k = 5 ∨ k = 6 ∨ k = 7 ∨ k = 8 ∨ k = 9 ∨ k = 10 := by omega
  rcases this with rfl | rfl | rfl | rfl | rfl | rfl | rfl | rfl | rfl | rfl | rfl
  · exact enc_as (enb_0 w) (fenc_x ⟨0, a, b, c, d, rs⟩ (by simp) (by simp) (by simp)).symm
  · exact enc_as (enb_1 w) (fenc_x ⟨1, a, b, c, d, rs⟩ (by simp) (by simp) (by simp)).symm
  · have hm : ∀ r ∈ rs, 0 ≤ r.1 ∧ r.1 ≤ r.2 ∧ r.2 ≤ 999 := by
      rcases hc with c | c | c | c | c | c | c | c
      · exact vfrom_mem 0 rs (by omega) (rvalid_parts c.2.2.2).1
      all_goals (exfalso; omega)
    refine enc_as (enb_2 a ra rc rs w HR hb.1 (Lib.hid hm)) ?_
    rw [fenc_2 _ rfl, joinS_app, ← joinS_app [2] [a]]
    rfl
  · refine enc_as (enb_3 a b c d w (by omega)) ?_
    rw [fenc_3 _ (.inl rfl), joinS_app, ← joinS_app [3] [a, b, c], app_assoc']
    rfl
  · refine enc_as (enb_4 a b w) ?_
    rw [fenc_x _ (by simp) (by simp) (by simp), ← joinS_app [4] [a, b]]; rfl
  · refine enc_as (enb_5 a w) ?_
    rw [fenc_x _ (by simp) (by simp) (by simp), ← joinS_app [5] [a]]; rfl
  · refine enc_as (enb_6 a w) ?_
    rw [fenc_x _ (by simp) (by simp) (by simp), ← joinS_app [6] [a]]; rfl
  · refine enc_as (enb_7 a b w) ?_
    rw [fenc_x _ (by simp) (by simp) (by simp), ← joinS_app [7] [a, b]]; rfl
  · refine enc_as (enb_8 a w) ?_
    rw [fenc_x _ (by simp) (by simp) (by simp), ← joinS_app [8] [a]]; rfl
  · refine enc_as (enb_9 d w (by omega)) ?_
    rw [fenc_3 _ (.inr rfl), joinS_app, app_assoc']
    rfl
  · refine enc_as (enb_10 a w) ?_
    rw [fenc_x _ (by simp) (by simp) (by simp), ← joinS_app [10] [a]]; rfl

set_option maxRecDepth 100000 in
set_option maxHeartbeats 1000000 in
theorem ifenc_any (f : Fr) (v : Value) (w : World) (h : Rngs w v f.rs) (hl : f.rs.length ≤ 1048576) (hd : f.d.size ≤ 2097152) : Calls Try.prog 15 #[frV f v] w (EncPost w (fencS f)) := by
  have HV := Lib.hid (fun W h => vb_any f v W h hl)
  have H := Lib.hid h
  cases hf : fok f
  · unfold fencS vbR at *
    rw [hf] at HV ⊢
    unfold frV at HV ⊢
    clear h hf
    go_enter Try.func15, Try.ntmps15
    go_wp2_with fail
    refine (HV.out _ (H.out.below ((Below.refl _ _).alloc (Nat.le_refl _) _))).mono ?_
    rintro e w1 ⟨rfl, hb⟩
    have HB := Lib.hid (((Below.refl w.heap.size w).alloc (Nat.le_refl _) _).trans (hb.mono (by simp)))
    clear hb
    go_wp2_with fail
    go_ret
    exact ⟨rfl, HB.out⟩
  · obtain ⟨ra, rc, rfl, hc⟩ := h
    have HB := Lib.hid (fun W h => enb_any f ra rc W h hf)
    unfold fencS vbR at *
    rw [hf] at HV ⊢
    unfold frV at HV ⊢
    unfold bodyV at HV HB
    generalize bodyT f.k = T at *
    generalize bodyX f.k f.a f.b f.c f.d (.slice ra f.rs.length rc) = x at *
    clear hf hc
    go_enter Try.func15, Try.ntmps15
    go_wp2_with fail
    refine (HV.out _ (H.out.below ((Below.refl _ _).alloc (Nat.le_refl _) _))).mono ?_
    rintro e w1 ⟨rfl, hb⟩
    have HB1 := Lib.hid (((Below.refl w.heap.size w).alloc (Nat.le_refl _) _).trans (hb.mono (by simp)))
    clear hb
    go_wp2_with fail
    refine (HB.out _ (Lib.hid (H.out.below HB1.out))).mono ?_
    rintro e w2 ⟨rfl, hb⟩
    have HB2 := Lib.hid (HB1.out.trans (hb.mono HB1.out.size))
    clear hb
    go_wp2_with fail
    go_ret
    exact ⟨rfl, HB2.out⟩

end Go.Proofs.Ythflokonihegbab
