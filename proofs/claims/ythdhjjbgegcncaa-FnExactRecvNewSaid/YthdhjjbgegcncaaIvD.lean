/- The library's slices.Grow (at nil) and slices.Concat: of two slices of bytes, of three lists of intervals. -/
import Derived.Test.YthdhjjbgegcncaaIvRow
import Derived.Lib.AppendZeros
namespace Go.Proofs.Ythdhjjbgegcncaa
open Go.RowKit
set_option linter.unusedVariables false
set_option linter.unusedSimpArgs false

set_option maxRecDepth 100000 in
set_option maxHeartbeats 2000000 in
theorem growB_any (n : Nat) (w : World) (hn : n ≤ 2097152) (hp : 0 < n) :
    Calls Try.prog 66 #[.slice none 0 0, .int .i64 n] w fun f w' => ∃ v, f = .returned v ∧ Below w.heap.size w w' ∧ OwnBy w' w.heap.size v ⟨#[]⟩ ∧ v ≠ .slice none 0 0 := by
  obtain ⟨i0, hi0, hz0, hz1, hz2⟩ := info_parts try_infoU8
  have hrz : ∀ ty, (Builtin.append_ #[53, 3] ty #[.slice none 0 0, .int .i64 n]).run Try.prog w =
      .ok (.slice (some ⟨w.heap.size, 0, none⟩) n (grownCap w n 0 5)) (w.drew.alloc (.cells (Builtin.zeroCells #[.int .u8 0] n ++ Builtin.zeroCells #[.int .u8 0] (grownCap w n 0 5 - n)) 5)) := fun ty =>
    Lib.run_append_nil_zeros w 53 3 ty 5 i0 (.int .u8 0) .i64 .i64 Try.underlying53 Try.underlying3 hi0 hz0 n (by omega) (by omega) (by omega) (by rw [hz2]; omega)
  have hGn : n ≤ grownCap w n 0 5 := grownCap_ge w _ _ _
  have hGm : grownCap w n 0 5 ≤ maxLen := grownCap_le_maxLen w n 0 5 (by unfold maxLen; omega)
  have h1 : ¬ ((n : Int) < 0) := by omega
  have h4 : (0 : Int) < (n : Int) := by omega
  generalize grownCap w n 0 5 = G at hrz hGn hGm
  have hown := Lib.hid (World.ownsRow_made (base := w.heap.size) (e := 5) (size := 1) w.drew (Builtin.zeroCells #[.int .u8 0] n ++ Builtin.zeroCells #[.int .u8 0] (G - n)) G (Nat.le_refl _) hGm (by rw [Array.size_append, size_zeroCells, size_zeroCells]; simp; omega))
  have HG := Lib.hid hGm
  clear hi0 hz0 hz1 hz2 hGm
  go_enter Try.func66, Try.ntmps66
  go_wp2_with (at_builtin; refine Lib.wpList_append_run _ rfl _ _ _ _ rfl _ _ rfl rfl _ _ (hrz _) ?_)
  go_ret
  exact ⟨_, rfl, (Below.refl w.heap.size w).drew.alloc (Nat.le_refl _) _, hown.out, by simp⟩

set_option maxRecDepth 100000 in
set_option maxHeartbeats 2000000 in
theorem growI_any (n : Nat) (w : World) (hn : n ≤ 2097152) (hp : 0 < n) :
    Calls Try.prog 64 #[.slice none 0 0, .int .i64 n] w fun f w' => ∃ v, f = .returned v ∧ Below w.heap.size w w' ∧ Ivl w' w.heap.size v [] := by
  obtain ⟨i0, hi0, hz0, hz1, hz2⟩ := info_parts try_infoIv
  have hrz : ∀ ty, (Builtin.append_ #[58, 3] ty #[.slice none 0 0, .int .i64 n]).run Try.prog w =
      .ok (.slice (some ⟨w.heap.size, 0, none⟩) n (grownCap w n 0 55)) (w.drew.alloc (.cells (Builtin.zeroCells #[.int .i64 0, .slice none 0 0] n ++ Builtin.zeroCells #[.int .i64 0, .slice none 0 0] (grownCap w n 0 55 - n)) 55)) := fun ty =>
    Lib.run_append_nil_zeros w 58 3 ty 55 i0 (.agg #[.int .i64 0, .slice none 0 0]) .i64 .i64 Try.underlying58 Try.underlying3 hi0 hz0 n (by omega) (by omega) (by omega) (by rw [hz2]; omega)
  have hGn : n ≤ grownCap w n 0 55 := grownCap_ge w _ _ _
  have hGm : grownCap w n 0 55 ≤ maxLen := grownCap_le_maxLen w n 0 55 (by unfold maxLen; omega)
  have h1 : ¬ ((n : Int) < 0) := by omega
  have h4 : (0 : Int) < (n : Int) := by omega
  generalize grownCap w n 0 55 = G at hrz hGn hGm
  have hown := Lib.hid (World.ownsRow_made (base := w.heap.size) (e := 55) (size := 2) w.drew (Builtin.zeroCells #[.int .i64 0, .slice none 0 0] n ++ Builtin.zeroCells #[.int .i64 0, .slice none 0 0] (G - n)) G (Nat.le_refl _) hGm (by rw [Array.size_append, size_zeroCells, size_zeroCells]; simp; omega))
  have HG := Lib.hid hGm
  clear hi0 hz0 hz1 hz2 hGm
  go_enter Try.func64, Try.ntmps64
  go_wp2_with (at_builtin; refine Lib.wpList_append_run _ rfl _ _ _ _ rfl _ _ rfl rfl _ _ (hrz _) ?_)
  go_ret
  exact ⟨_, rfl, (Below.refl w.heap.size w).drew.alloc (Nat.le_refl _) _, [], hown.out, ⟨rfl, fun i h => by simp at h⟩, by simp⟩

set_option maxRecDepth 100000 in
set_option maxHeartbeats 4000000 in
theorem concatB_any (b : Nat) (va vb : Value) (d e : ByteArray) (w : World) (h0 : w.cell? ⟨b, 0, none⟩ = some va) (h1 : w.cell? ⟨b, 1, none⟩ = some vb) (ha : Byt w va d) (hb : Byt w vb e) (hd : d.size ≤ 1000000) (he : e.size ≤ 1000000) (hp : 0 < d.size + e.size) :
    Calls Try.prog 63 #[.slice (some ⟨b, 0, none⟩) 2 2] w fun f w' => ∃ v, f = .returned v ∧ Below w.heap.size w w' ∧ Byt w' v (d ++ e) := by
  have HA := Lib.hid ha
  have HBb := Lib.hid hb
  obtain ⟨a1, o1, c1, C1, m1, rfl, _, _, _⟩ := ha
  obtain ⟨a2, o2, c2, C2, m2, rfl, _, _, _⟩ := hb
  have H0 := Lib.hid h0
  have H1 := Lib.hid h1
  have HS := Lib.hid (show ((d.size : Int) + (e.size : Int)) = ((d.size + e.size : Nat) : Int) by omega)
  have hn1 : ¬ ((d.size : Int) < 0) := by omega
  have hn2 : ¬ ((d.size : Int) + (e.size : Int) < 0) := by omega
  go_enter Try.func63, Try.ntmps63
  go_wp2_with fail
  refine wp_loop_rounds 3 ?_
  rw [rounds_succ]
  go_wp2_with fail
  rw [rounds_succ]
  go_wp2_with fail
  rw [rounds_succ]
  go_wp2_with fail
  have hgr := growB_any (d.size + e.size) w (by omega) hp
  rw [← HS.out] at hgr
  have HGR := Lib.hid hgr
  clear hgr
  refine HGR.out.mono ?_
  rintro e1 w1 ⟨v1, rfl, hb1, ho1⟩
  have B1 := Lib.hid hb1
  have O1 := Lib.hid ho1
  have h0 := (hb1.cell (World.block_lt_of_cell? w _ h0)).trans h0
  have h1 := (hb1.cell (World.block_lt_of_cell? w _ h1)).trans h1
  clear hb1 ho1
  go_wp2_with fail
  refine wp_loop_rounds 3 ?_
  rw [rounds_succ]
  go_wp2_with (at_builtin; refine hold ?_)
  refine unhold ?_
  refine wpList_app_by w1 rfl (.tmp 31) (.tmp 32) rfl w.heap.size _ ⟨#[]⟩ d rfl O1.out.1 _ rfl (HA.out.below B1.out) ?A0a B1.out.size ?_
  case A0a => first | omega | (have z0 : (ByteArray.mk #[]).size = 0 := rfl; omega) | (simp; omega)
  intro v2 w2 ho2 hg2 hn2
  have B2 : Hid (Below w.heap.size w w2) := Lib.hid (B1.out.grown hg2 B1.out.size (fun j hj => (O1.out.1.lt j hj).1))
  have O2 := Lib.hid ho2
  have N2 : Hid (v2 ≠ .slice none 0 0) := Lib.hid (fun e => O1.out.2 (hn2 e))
  clear ho2 hg2 hn2
  have HB2 := Lib.hid (HBb.out.below B2.out)
  have h1 := (B2.out.cell (World.block_lt_of_cell? w _ H1.out)).trans H1.out
  go_wp2_with fail
  rw [rounds_succ]
  go_wp2_with (at_builtin; refine hold ?_)
  refine unhold ?_
  refine wpList_app_by w2 rfl (.tmp 31) (.tmp 32) rfl w.heap.size _ d e rfl O2.out _ rfl HB2.out ?A1a B2.out.size ?_
  case A1a => first | omega | (have z0 : (ByteArray.mk #[]).size = 0 := rfl; omega) | (simp; omega)
  intro v3 w3 ho3 hg3 hn3
  have B3 : Hid (Below w.heap.size w w3) := Lib.hid (B2.out.grown hg3 B2.out.size (fun j hj => (O2.out.lt j hj).1))
  have O3 := Lib.hid ho3
  have N3 : Hid (v3 ≠ .slice none 0 0) := Lib.hid (fun e => N2.out (hn3 e))
  clear ho3 hg3 hn3
  go_wp2_with fail
  rw [rounds_succ]
  go_wp2_with fail
  go_ret
  refine ⟨_, rfl, B3.out, ?_⟩
  have := OwnBy.byt O3.out N3.out
  simpa using this

theorem SrcIv.below {w w' : World} {v : Value} {l : List Qc} (h : SrcIv w v l) (hb : Below w.heap.size w w') : SrcIv w' v l := by
  obtain ⟨M, g, o, c, rfl, h1, h2⟩ := h
  exact ⟨M, g, o, c, rfl, h1.below hb, fun q x hx => (hb.cell (World.block_lt_of_cell? w _ (h2 q x hx))).trans (h2 q x hx)⟩
theorem Ivl.lo {w : World} {B : Nat} {v : Value} {l : List Qc} (h : Ivl w B v l) : ∀ k, v.ownBlock = some k → B ≤ k := by
  obtain ⟨g, c, rfl, _, hg, _⟩ := h.sl
  intro k hk
  injection hk with hk
  simp only at hk
  omega
set_option maxRecDepth 100000 in
set_option maxHeartbeats 4000000 in
theorem concatI_any (b : Nat) (va vb vc : Value) (l m n : List Qc) (w : World) (h0 : w.cell? ⟨b, 0, none⟩ = some va) (h1 : w.cell? ⟨b, 1, none⟩ = some vb) (h2 : w.cell? ⟨b, 2, none⟩ = some vc) (ha : SrcIv w va l) (hb : SrcIv w vb m) (hc : SrcIv w vc n) (hl : l.length ≤ 500000) (hm : m.length ≤ 500000) (hn : n.length ≤ 500000) (hp : 0 < l.length + m.length + n.length) :
    Calls Try.prog 58 #[.slice (some ⟨b, 0, none⟩) 3 3] w fun f w' => ∃ v, f = .returned v ∧ Below w.heap.size w w' ∧ Ivl w' w.heap.size v (l ++ m ++ n) := by
  have T0 : Hid (∀ {W : World}, Below w.heap.size w W → SrcIv W va l) := Lib.hid fun h => ha.below h
  have T1 : Hid (∀ {W : World}, Below w.heap.size w W → SrcIv W vb m) := Lib.hid fun h => hb.below h
  have T2 : Hid (∀ {W : World}, Below w.heap.size w W → SrcIv W vc n) := Lib.hid fun h => hc.below h
  obtain ⟨_, a1, o1, c1, rfl, _, _⟩ := ha
  obtain ⟨_, a2, o2, c2, rfl, _, _⟩ := hb
  obtain ⟨_, a3, o3, c3, rfl, _, _⟩ := hc
  have H0 := Lib.hid h0
  have H1 := Lib.hid h1
  have H2 := Lib.hid h2
  have HS := Lib.hid (show ((l.length : Int) + (m.length : Int) + (n.length : Int)) = ((l.length + m.length + n.length : Nat) : Int) by omega)
  have hn1 : ¬ ((l.length : Int) < 0) := by omega
  have hn2 : ¬ ((l.length : Int) + (m.length : Int) < 0) := by omega
  have hn3 : ¬ ((l.length : Int) + (m.length : Int) + (n.length : Int) < 0) := by omega
  go_enter Try.func58, Try.ntmps58
  go_wp2_with fail
  refine wp_loop_rounds 4 ?_
  rw [rounds_succ]
  go_wp2_with fail
  rw [rounds_succ]
  go_wp2_with fail
  rw [rounds_succ]
  go_wp2_with fail
  rw [rounds_succ]
  go_wp2_with fail
  have hgr := growI_any (l.length + m.length + n.length) w (by omega) hp
  rw [← HS.out] at hgr
  have HGR := Lib.hid hgr
  clear hgr
  refine HGR.out.mono ?_
  rintro e1 w1 ⟨v1, rfl, hb1, ho1⟩
  have B1 := Lib.hid hb1
  have O1 := Lib.hid ho1
  have S0 := Lib.hid (T0.out hb1)
  have h0 := (hb1.cell (World.block_lt_of_cell? w _ h0)).trans h0
  have h1 := (hb1.cell (World.block_lt_of_cell? w _ h1)).trans h1
  have h2 := (hb1.cell (World.block_lt_of_cell? w _ h2)).trans h2
  clear hb1 ho1
  go_wp2_with fail
  refine wp_loop_rounds 4 ?_
  rw [rounds_succ]
  go_wp2_with (at_builtin; refine hold ?_)
  refine unhold ?_
  refine wpList_app_iv w1 rfl (.tmp 31) (.tmp 32) rfl w.heap.size _ [] l rfl O1.out _ rfl S0.out ?A0a B1.out.size ?_
  case A0a => first | omega | (have z0 : (ByteArray.mk #[]).size = 0 := rfl; omega) | (simp; omega)
  intro v2 w2 ho2 hg2 hn2
  have B2 : Hid (Below w.heap.size w w2) := Lib.hid (B1.out.grown hg2 B1.out.size (fun j hj => O1.out.lo j hj))
  have O2 := Lib.hid ho2
  clear ho2 hg2 hn2
  have S1 := Lib.hid (T1.out B2.out)
  have h1 := (B2.out.cell (World.block_lt_of_cell? w _ H1.out)).trans H1.out
  have S2 := Lib.hid (T2.out B2.out)
  have h2 := (B2.out.cell (World.block_lt_of_cell? w _ H2.out)).trans H2.out
  go_wp2_with fail
  rw [rounds_succ]
  go_wp2_with (at_builtin; refine hold ?_)
  refine unhold ?_
  refine wpList_app_iv w2 rfl (.tmp 31) (.tmp 32) rfl w.heap.size _ l m rfl O2.out _ rfl S1.out ?A1a B2.out.size ?_
  case A1a => first | omega | (have z0 : (ByteArray.mk #[]).size = 0 := rfl; omega) | (simp; omega)
  intro v3 w3 ho3 hg3 hn3
  have B3 : Hid (Below w.heap.size w w3) := Lib.hid (B2.out.grown hg3 B2.out.size (fun j hj => O2.out.lo j hj))
  have O3 := Lib.hid ho3
  clear ho3 hg3 hn3
  have S2 := Lib.hid (T2.out B3.out)
  have h2 := (B3.out.cell (World.block_lt_of_cell? w _ H2.out)).trans H2.out
  go_wp2_with fail
  rw [rounds_succ]
  go_wp2_with (at_builtin; refine hold ?_)
  refine unhold ?_
  refine wpList_app_iv w3 rfl (.tmp 31) (.tmp 32) rfl w.heap.size _ (l ++ m) n rfl O3.out _ rfl S2.out ?A2a B3.out.size ?_
  case A2a => first | omega | (have z0 : (ByteArray.mk #[]).size = 0 := rfl; omega) | (simp; omega)
  intro v4 w4 ho4 hg4 hn4
  have B4 : Hid (Below w.heap.size w w4) := Lib.hid (B3.out.grown hg4 B3.out.size (fun j hj => O3.out.lo j hj))
  have O4 := Lib.hid ho4
  clear ho4 hg4 hn4
  go_wp2_with fail
  rw [rounds_succ]
  go_wp2_with fail
  go_ret
  refine ⟨_, rfl, B4.out, ?_⟩
  have := O4.out
  simpa using this
end Go.Proofs.Ythdhjjbgegcncaa
