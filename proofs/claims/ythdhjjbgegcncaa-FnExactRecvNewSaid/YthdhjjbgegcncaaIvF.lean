/- Chapter 31, the program's intervals: the list from an offset on. -/
import Derived.Test.YthdhjjbgegcncaaIvE
namespace Go.Proofs.Ythdhjjbgegcncaa
open Go.RowKit
set_option linter.unusedVariables false
set_option linter.unusedSimpArgs false

/-- Every interval is short, and starts where it may. -/
def ISz (l : List Qc) : Prop := ∀ p ∈ l, (0 ≤ p.1 ∧ p.1 ≤ 1000000) ∧ p.2.size ≤ 500000
theorem ISz.at {l : List Qc} (h : ISz l) (i : Nat) (hi : i < l.length) : (0 ≤ l[i].1 ∧ l[i].1 ≤ 1000000) ∧ l[i].2.size ≤ 500000 := h _ (List.getElem_mem hi)
theorem take_snoc' {α : Type} (l : List α) (j : Nat) (h : j < l.length) : l.take (j + 1) = l.take j ++ [l[j]] := by
  rw [List.take_add_one, List.getElem?_eq_getElem h]; rfl
/-- An interval in a new block. -/
structure Cel (W : World) (b : Nat) (u v : Value) : Prop where
  c0 : W.cell? ⟨b, 0, none⟩ = some u
  c1 : W.cell? ⟨b, 1, none⟩ = some v
theorem Cel.new (w : World) (T : TypeId) (u v : Value) : Cel (w.alloc (.cells #[u, v] T)) w.heap.size u v := ⟨by rw [World.cell?_alloc_mark]; rfl, by rw [World.cell?_alloc_mark]; rfl⟩
theorem Cel.lt {W : World} {b : Nat} {u v : Value} (h : Cel W b u v) : b < W.heap.size := World.block_lt_of_cell? W _ h.c0
theorem Cel.below {W W' : World} {b : Nat} {u v : Value} (h : Cel W b u v) (hb : Below W.heap.size W W') : Cel W' b u v := ⟨(hb.cell (p := ⟨b, 0, none⟩) h.lt).trans h.c0, (hb.cell (p := ⟨b, 1, none⟩) h.lt).trans h.c1⟩

set_option maxRecDepth 100000 in
set_option maxHeartbeats 4000000 in
theorem lfrom_any (B : Nat) (v : Value) (l : List Qc) (off : Int) (w : World) (h : Ivl w B v l) (hl : l.length ≤ 1000) (hz : ISz l) (h3 : -1000000 ≤ off ∧ off ≤ 1000000) :
    Calls Try.prog 47 #[v, .int .i64 off] w fun e w' => ∃ u, e = .returned u ∧ Below w.heap.size w w' ∧ Ivl w' w.heap.size u (lcut l off) := by
  have H := Lib.hid h
  have HZ := Lib.hid hz
  obtain ⟨g, c, rfl, hc, hgB, hgw⟩ := h.sl
  have I0 := Lib.hid (Ivl.new (w := w) (B := w.heap.size) (Nat.le_refl _))
  have B0 := Lib.hid ((Below.refl w.heap.size w).alloc (Nat.le_refl _) (.cells #[] 55))
  clear h hz
  go_enter Try.func47, Try.ntmps47
  go_wp2_with fail
  generalize w.alloc (.cells #[] 55) = W0 at *
  go_loopw [5, 11] (fun rv iv wr => ∃ j : Nat, j ≤ l.length ∧ iv = .int .i64 (j : Int) ∧ Hid (Below w.heap.size w wr) ∧ Hid (Ivl wr w.heap.size rv (lcut (l.take j) off))) (fun _ iv _ => l.length - (intOf iv).toNat)
  case atStart => exact ⟨0, Nat.zero_le _, rfl, B0, I0⟩
  case round =>
    obtain ⟨j, hj, rfl, HB, HI⟩ := hrel
    by_cases hlt : j < l.length
    · have hlt' : (j : Int) < (l.length : Int) := by omega
      obtain ⟨u, c0, c1, hy⟩ := (H.out.below HB.out).at j hlt
      have hsz := HZ.out.at j hlt
      have HT := Lib.hid (take_snoc' l j hlt)
      have HL := Lib.hid (lcut_snoc (l.take j) l[j] off)
      rw [← HT.out] at HL
      have hlen : (lcut (l.take j) off).length ≤ 1000 := by
        unfold lcut
        rw [List.length_map]
        have := List.length_filter_le (fun p : Qc => decide (off < p.1 + (p.2.size : Int))) (l.take j)
        rw [List.length_take] at this
        omega
      generalize l[j] = p at *
      obtain ⟨x, d⟩ := p
      simp only at c0 c1 hy hsz
      have HY := Lib.hid hy
      obtain ⟨g1, o1, k1, rfl, hk1⟩ := hy.shape
      clear hy
      have hbx : IntKind.i64.wrap (x + (d.size : Int)) = x + (d.size : Int) := IntWalk.i64_in _ (by omega)
      have KF := Lib.hid (fun W (hW : Below wr.heap.size wr W) => ifrom_any x off _ d W (HY.out.below hW) (by omega) (by omega) (by omega))
      have KE := Lib.hid (fun W => iend_any x (some ⟨g1, o1, none⟩) d.size k1 W (by omega) (by omega))
      have B1 := Lib.hid ((Below.refl wr.heap.size wr).alloc (Nat.le_refl _) (.cells #[.int .i64 x, .slice (some ⟨g1, o1, none⟩) d.size k1] 55))
      have C1 := Lib.hid (Cel.new wr 55 (.int .i64 x) (.slice (some ⟨g1, o1, none⟩) d.size k1))
      by_cases hoff : off < x + (d.size : Int)
      · have hd : decide (off < x + (d.size : Int)) = true := decide_eq_true hoff
        have HL2 : Hid (lcut (l.take (j + 1)) off = lcut (l.take j) off ++ [cut (x, d) off]) := Lib.hid (by rw [HL.out, if_pos hoff])
        clear HL hgw
        obtain ⟨⟨qx, qd⟩, hq⟩ : ∃ q, cut (x, d) off = q := ⟨_, rfl⟩
        rw [hq] at HL2 KF
        clear hq
        go_wp2_with fail
        generalize wr.alloc (.cells #[.int .i64 x, .slice (some ⟨g1, o1, none⟩) d.size k1] 55) = W1 at *
        refine (KE.out _).mono ?_
        rintro e w2 ⟨rfl, hb2⟩
        have B2 := Lib.hid (B1.out.trans (hb2.mono B1.out.size))
        have C2 := Lib.hid (C1.out.below hb2)
        have z0 := C2.out.c0
        have z1 := C2.out.c1
        clear hb2
        go_wp2_with fail
        refine (KF.out _ B2.out).mono ?_
        rintro e w3 ⟨v3, rfl, hb3, hy3⟩
        have B3 := Lib.hid (B2.out.trans (hb3.mono B2.out.size))
        have S3 := Lib.hid (SrcIv.new hy3 (x := qx) 55)
        have I3 := Lib.hid (HI.out.below (B3.out.alloc B3.out.size (.cells #[.int .i64 qx, v3] 55)))
        have B4 := Lib.hid (B3.out.alloc B3.out.size (.cells #[.int .i64 qx, v3] 55))
        clear hb3 hy3
        go_wp2_with (at_builtin; refine hold ?_)
        refine unhold ?_
        refine wpList_app_iv _ rfl (.tmp 19) (.tmp 23) rfl w.heap.size _ _ [(qx, qd)] rfl I3.out _ rfl S3.out ?Aa ?Ab ?_
        case Aa => simp; omega
        case Ab => have := B4.out.size; have := HB.out.size; omega
        intro v5 w5 ho5 hg5 hn5
        have B5 : Hid (Below w.heap.size w w5) := Lib.hid ((HB.out.trans (B4.out.mono HB.out.size)).grown hg5 (Nat.le_trans HB.out.size B4.out.size) (fun k hk => HI.out.lo k hk))
        have O5 := Lib.hid ho5
        rw [← HL2.out] at O5
        clear ho5 hg5 hn5
        go_wp2_with fail
        go_roundw
        case rel => exact ⟨j + 1, by omega, by go_num, B5, O5⟩
        case measure => simp [intOf]; omega
      · have hd : decide (off < x + (d.size : Int)) = false := decide_eq_false hoff
        have HL2 : Hid (lcut (l.take (j + 1)) off = lcut (l.take j) off) := Lib.hid (by rw [HL.out, if_neg hoff])
        clear HL hgw
        go_wp2_with fail
        generalize wr.alloc (.cells #[.int .i64 x, .slice (some ⟨g1, o1, none⟩) d.size k1] 55) = W1 at *
        refine (KE.out _).mono ?_
        rintro e w2 ⟨rfl, hb2⟩
        have B2 := Lib.hid (B1.out.trans (hb2.mono B1.out.size))
        have B5 := Lib.hid (HB.out.trans (B2.out.mono HB.out.size))
        have I5 := Lib.hid (HI.out.below B2.out)
        rw [← HL2.out] at I5
        clear hb2
        go_wp2_with fail
        go_roundw
        case rel => exact ⟨j + 1, by omega, by go_num, B5, I5⟩
        case measure => simp [intOf]; omega
    · have hlt' : ¬ (j : Int) < (l.length : Int) := by omega
      rw [List.take_of_length_le (by omega)] at HI
      go_wp2_with fail
      go_ret
      exact ⟨_, rfl, HB.out, HI.out⟩
end Go.Proofs.Ythdhjjbgegcncaa
