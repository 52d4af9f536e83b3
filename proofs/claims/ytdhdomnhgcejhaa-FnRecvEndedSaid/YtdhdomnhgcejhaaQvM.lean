/- Chapter 31's draws: DrawRecvEnded. -/
import Derived.Test.YtdhdomnhgcejhaaQvL
namespace Go.Proofs.Ytdhdomnhgcejhaa
open Go.RowKit
set_option linter.unusedVariables false
set_option linter.unusedSimpArgs false

def GotRe (w : World) (e : Ending) (w' : World) : Prop := ∃ (rd fi li : Int) (v : Value) (l : List Pc), e = .returned (.agg #[.int .i64 rd, v, .int .i64 fi, .int .i64 li]) ∧ Below w.heap.size w w' ∧ OwnPc w' w.heap.size v l ∧ v ≠ .slice none 0 0 ∧ RvBd rd li l
/-- Where DrawRecvEnded stands: as DrawRecvPut; the variable bears stores. -/
structure Ke (w W : World) (b k bx g c : Nat) (rd fi li : Int) (l : List Pc) : Prop where
  kx : Kx w W w.heap.size b k bx g c rd fi li l
  t : Thaw W bx
  ne : g ≠ bx
section
variable {w W W' : World} {b k bx g c : Nat} {rd fi li : Int} {l : List Pc}
theorem Ke.below (h : Ke w W b k bx g c rd fi li l) (hb : Below W.heap.size W W') : Ke w W' b k bx g c rd fi li l where
  kx := {
    bel := h.kx.bel.trans (hb.mono h.kx.bel.size)
    rdr := h.kx.rdr.below hb
    frm := h.kx.frm.below hb h.kx.hi
    zfrm := h.kx.zfrm.below hb (by have := h.kx.o2; have := h.kx.o3; have := h.kx.hi; omega)
    zthaw := h.kx.zthaw.below hb (by have := h.kx.o2; have := h.kx.o3; have := h.kx.hi; omega)
    own := h.kx.own.below hb
    o1 := h.kx.o1
    o2 := h.kx.o2
    o3 := h.kx.o3
    hi := Nat.lt_of_lt_of_le h.kx.hi hb.size }
  t := h.t.below hb h.kx.hi
  ne := h.ne
theorem Ke.le {k' : Nat} (h : Ke w W b k bx g c rd fi li l) (hk : k ≤ k') : Ke w W b k' bx g c rd fi li l := ⟨h.kx.le hk, h.t, h.ne⟩
theorem Ke.pick {k' : Nat} (h : Ke w W b k bx g c rd fi li l) (hg : W.grownBy W' (some b)) (hR : Rdr W' b k') : Ke w W' b k' bx g c rd fi li l :=
  ⟨h.kx.pick hg hR, h.t.grown h.kx.hi hg (by have := h.kx.o3; omega), h.ne⟩
/-- A cell of the variable is stored. -/
theorem kx_set {i : Nat} {u : Value} {vs : List Value} {br : Nat} (h1 : Below w.heap.size w W) (h2 : Rdr W b k) (h3 : Frm W bx vs) (h4 : Frm W br [.int .i64 0, .slice none 0 0, .int .i64 0, .int .i64 0]) (h5 : Thaw W br) {v : Value} {B : Nat} (h6 : OwnPc W B v l) (h7 : Thaw W bx)
    (hi : i < vs.length) (hb : b < bx) (hr : br ≠ bx) (hB : bx < B ∨ B = bx + 1 ∨ v.ownBlock ≠ some bx) (hw : w.heap.size ≤ bx) :
    Below w.heap.size w (W.setCell ⟨bx, i, none⟩ u) ∧ Rdr (W.setCell ⟨bx, i, none⟩ u) b k ∧ Frm (W.setCell ⟨bx, i, none⟩ u) bx (vs.set i u) ∧ Frm (W.setCell ⟨bx, i, none⟩ u) br [.int .i64 0, .slice none 0 0, .int .i64 0, .int .i64 0] ∧ Thaw (W.setCell ⟨bx, i, none⟩ u) br ∧ OwnPc (W.setCell ⟨bx, i, none⟩ u) B v l ∧ Thaw (W.setCell ⟨bx, i, none⟩ u) bx := by
  refine ⟨h1.setCell (p := ⟨bx, i, none⟩) hw u, h2.grown (grown_cell W bx i u) fun r e => by injection e with e; omega, h3.set hi u, h4.far (by omega) u, h5.set _ u, own_far h6 fun q hq e => ?_, h7.set _ u⟩
  have := (World.ownsRow.lt h6 q hq).1
  rcases hB with hB | hB | hB
  · omega
  · omega
  · exact hB (by rw [hq, e])
/-- The variable takes another stream. -/
theorem Ke.put {g' n' c' : Nat} {rd' fi' li' : Int} {l' : List Pc} (h : Ke w W b k bx g c rd fi li l) (hb : Below W.heap.size W W') (ho : OwnPc W' W.heap.size (.slice (some ⟨g', 0, none⟩) l'.length c') l') :
    Ke w ((((W'.setCell ⟨bx, 0, none⟩ (.int .i64 rd')).setCell ⟨bx, 1, none⟩ (.slice (some ⟨g', 0, none⟩) l'.length c')).setCell ⟨bx, 2, none⟩ (.int .i64 fi')).setCell ⟨bx, 3, none⟩ (.int .i64 li')) b k bx g' c' rd' fi' li' l' := by
  have k0 := h.below hb
  have hbx := h.kx.o3
  have hww : w.heap.size ≤ bx := by have := h.kx.o1; have := h.kx.o2; omega
  have hrr : w.heap.size ≠ bx := by have := h.kx.o2; omega
  have hB : bx < W.heap.size ∨ W.heap.size = bx + 1 ∨ (Value.slice (some ⟨g', 0, none⟩) l'.length c').ownBlock ≠ some bx := .inl h.kx.hi
  obtain ⟨a1, a2, a3, a4, a5, a6, a7⟩ := kx_set (i := 0) (u := .int .i64 rd') k0.kx.bel k0.kx.rdr k0.kx.frm k0.kx.zfrm k0.kx.zthaw ho k0.t (by simp) hbx hrr hB hww
  obtain ⟨b1, b2, b3, b4, b5, b6, b7⟩ := kx_set (i := 1) (u := .slice (some ⟨g', 0, none⟩) l'.length c') a1 a2 a3 a4 a5 a6 a7 (by simp) hbx hrr hB hww
  obtain ⟨c1, c2, c3, c4, c5, c6, c7⟩ := kx_set (i := 2) (u := .int .i64 fi') b1 b2 b3 b4 b5 b6 b7 (by simp) hbx hrr hB hww
  obtain ⟨d1, d2, d3, d4, d5, d6, d7⟩ := kx_set (i := 3) (u := .int .i64 li') c1 c2 c3 c4 c5 c6 c7 (by simp) hbx hrr hB hww
  exact ⟨⟨d1, d2, d3, d4, d5, d6.lower (by have := h.kx.hi; omega), h.kx.o1, h.kx.o2, h.kx.o3, by have := k0.kx.hi; simpa using this⟩, d7, by have := ho.lt.1; have := h.kx.hi; omega⟩
/-- The final size is stored. -/
theorem Ke.set2 (h : Ke w W b k bx g c rd fi li l) (x : Int) : Ke w (W.setCell ⟨bx, 2, none⟩ (.int .i64 x)) b k bx g c rd x li l := by
  obtain ⟨d1, d2, d3, d4, d5, d6, d7⟩ := kx_set (i := 2) (u := .int .i64 x) h.kx.bel h.kx.rdr h.kx.frm h.kx.zfrm h.kx.zthaw h.kx.own h.t (by simp) h.kx.o3 (by have := h.kx.o2; have := h.kx.o3; omega) (.inr (.inr fun e => h.ne (Option.some.inj e))) (by have := h.kx.o2; have := h.kx.o3; omega)
  exact ⟨⟨d1, d2, d3, d4, d5, d6, h.kx.o1, h.kx.o2, h.kx.o3, by have := h.kx.hi; simpa using this⟩, d7, h.ne⟩
end

set_option maxRecDepth 100000 in
set_option maxHeartbeats 8000000 in
theorem drawRe_any (a : Option Addr) (len cap : Nat) (zs : List Int) (w : World) (h : IsRow .u8 w a len cap zs) :
    Calls Try.prog 31 #[.slice a len cap] w (GotRe w) := by
  have B0 : Below w.heap.size w (w.alloc (.cells #[.int .i64 0, .slice none 0 0, .int .i64 0, .int .i64 0] 30)) := (Below.refl _ _).alloc (Nat.le_refl _) _
  have H := Lib.hid (IsRow.keep h (w' := w.alloc (.cells #[.int .i64 0, .slice none 0 0, .int .i64 0, .int .i64 0] 30)) (fun x _ _ i v hv => (B0.cell (World.block_lt_of_cell? w _ hv)).trans hv))
  have Z0 := Lib.hid (Frm.new w 30 [.int .i64 0, .slice none 0 0, .int .i64 0, .int .i64 0])
  have Y0 := Lib.hid (Thaw.new w 30 [.int .i64 0, .slice none 0 0, .int .i64 0, .int .i64 0])
  have BB0 := Lib.hid B0
  have hs0 : (w.alloc (.cells #[.int .i64 0, .slice none 0 0, .int .i64 0, .int .i64 0] 30)).heap.size = w.heap.size + 1 := by simp
  have HS0 := Lib.hid hs0
  clear h B0 hs0
  go_enter Try.func31, Try.ntmps31
  go_wp2_with fail
  refine (open_any a len cap zs _ H.out).mono ?_
  rintro e w1 ⟨rfl, hb1, hR1⟩
  rw [HS0.out] at hb1 hR1
  have Z1 := Lib.hid (Frm.below Z0.out hb1 (Nat.lt_succ_self _))
  have Y1 := Lib.hid (Thaw.below Y0.out hb1 (Nat.lt_succ_self _))
  have BB1 := Lib.hid (BB0.out.trans (hb1.mono (Nat.le_succ _)))
  have HR1 := Lib.hid hR1
  clear hb1 hR1 Z0 Y0 BB0 H
  have hs0 : (w.alloc (.cells #[.int .i64 0, .slice none 0 0, .int .i64 0, .int .i64 0] 30)).heap.size = w.heap.size + 1 := HS0.out
  go_wp2_with fail
  refine (pick_rdr (w.heap.size + 1) 0 3 w1 HR1.out (by omega) (by omega) (by omega)).mono ?_
  rintro e w2 ⟨p, hp, rfl, hg2, hR2⟩
  have hb1s : w.heap.size + 1 < w1.heap.size := HR1.out.1
  have hz2 := hg2.size
  have Z2 := Lib.hid (Z1.out.kept hg2 (by omega) (fun e => by injection e with e; omega))
  have Y2 := Lib.hid (Y1.out.kept hg2 (by omega) (fun e => by injection e with e; omega))
  have BB2 := Lib.hid (BB1.out.grown hg2 BB1.out.size (fun r e => by injection e with e; omega))
  have HR2 := Lib.hid hR2
  have hs2 : w.heap.size + 1 < w2.heap.size := by omega
  have FINI : Hid (∀ (W : World) (bx g c : Nat) (rd fi li : Int) (l : List Pc), Ke w W (w.heap.size + 1) 500 bx g c rd fi li l → RvBd rd li l → GotRe w (.returned (.agg #[.int .i64 rd, .slice (some ⟨g, 0, none⟩) l.length c, .int .i64 fi, .int .i64 li])) ((((W.setCell ⟨w.heap.size, 0, none⟩ (.int .i64 rd)).setCell ⟨w.heap.size, 1, none⟩ (.slice (some ⟨g, 0, none⟩) l.length c)).setCell ⟨w.heap.size, 2, none⟩ (.int .i64 fi)).setCell ⟨w.heap.size, 3, none⟩ (.int .i64 li))) := Lib.hid (fun W bx g c rd fi li l hk hb => by
    obtain ⟨B5, F5, O5⟩ := hk.kx.fin
    exact ⟨rd, fi, li, _, l, rfl, B5, O5, by simp, hb⟩)
  clear hg2 hR2 Z1 Y1 BB1 HR1 hz2 hb1s
  by_cases h0 : p = 0
  case pos =>
    subst h0
    go_wp2_with fail
    refine (pick_rdr (w.heap.size + 1) _ 31 w2 HR2.out (by omega) (by omega) (by omega)).mono ?_
    rintro e w3 ⟨n, hn, rfl, hg3, hR3⟩
    have hz3 := hg3.size
    have Z3 := Lib.hid (Z2.out.kept hg3 (by omega) (fun e => by injection e with e; omega))
    have Y3 := Lib.hid (Y2.out.kept hg3 (by omega) (fun e => by injection e with e; omega))
    have BB3 := Lib.hid (BB2.out.grown hg3 BB2.out.size (fun r e => by injection e with e; omega))
    have HR3 := Lib.hid hR3
    have hs3 : w.heap.size + 1 < w3.heap.size := by omega
    clear hg3 hR3 Z2 Y2 BB2 HR2 hs2
    go_wp2_with fail
    refine (snew_any 30 w3 (by omega) (by omega)).mono ?_
    rintro e w4 ⟨v, rfl, hb4, ho4, hv4⟩
    obtain ⟨g, c, rfl, hc, hgB, hgh⟩ := ho4.sl hv4
    have hz4 := hb4.size
    have A2 : Below w4.heap.size w4 (w4.alloc (.cells #[.int .i64 0, .slice (some ⟨g, 0, none⟩) ([] : List Pc).length c, .int .i64 (-1), .int .i64 30] 30)) := (Below.refl _ _).alloc (Nat.le_refl _) _
    have K2 : Hid (Ke w (w4.alloc (.cells #[.int .i64 0, .slice (some ⟨g, 0, none⟩) ([] : List Pc).length c, .int .i64 (-1), .int .i64 30] 30)) (w.heap.size + 1) 500 w4.heap.size g c 0 (-1) 30 ([] : List Pc)) := Lib.hid ⟨{
      bel := ((BB3.out.trans (hb4.mono BB3.out.size))).alloc (by have := BB3.out.size; omega) _
      rdr := ((HR3.out.below hb4).le (by omega)).below A2
      frm := Frm.new w4 30 [.int .i64 0, .slice (some ⟨g, 0, none⟩) ([] : List Pc).length c, .int .i64 (-1), .int .i64 30]
      zfrm := ((Z3.out.below hb4 (by omega))).below A2 (by omega)
      zthaw := ((Y3.out.below hb4 (by omega))).below A2 (by omega)
      own := (OwnPc.lower ho4 (by omega)).below A2
      o1 := Nat.le_refl _
      o2 := Nat.lt_succ_self _
      o3 := by omega
      hi := by simp }, Thaw.new w4 30 [.int .i64 0, .slice (some ⟨g, 0, none⟩) ([] : List Pc).length c, .int .i64 (-1), .int .i64 30], by omega⟩
    clear hb4 ho4 hv4 A2 Z3 Y3 BB3 HR3 hc
    go_upto_region 5 with fail
    simp only [List.length_nil] at K2
    generalize hW : (w4.alloc (.cells #[.int .i64 0, .slice (some ⟨g, 0, none⟩) 0 c, .int .i64 (-1), .int .i64 30] 30)) = W2 at *
    generalize hbx : w4.heap.size = bx at *
    clear hW hbx
    have KD : Hid (Ke w W2.drew (w.heap.size + 1) 500 bx g c 0 (-1) 30 []) := Lib.hid (K2.out.below (Below.refl _ _).drew)
    have q0 : W2.drew.cell? ⟨bx, 0, none⟩ = some (.int .i64 0) := KD.out.kx.frm 0
    have q1 : W2.drew.cell? ⟨bx, 1, none⟩ = some (.slice (some ⟨g, 0, none⟩) 0 c) := KD.out.kx.frm 1
    have q2 : W2.drew.cell? ⟨bx, 2, none⟩ = some (.int .i64 (-1)) := KD.out.kx.frm 2
    have q3 : W2.drew.cell? ⟨bx, 3, none⟩ = some (.int .i64 30) := KD.out.kx.frm 3
    have f3 : (n : Int) ≤ (foxS.size : Int) := by rw [foxS_size]; omega
    have htn : (foxS.extract 0 n).size ≤ 30 := by rw [ByteArray.size_extract, foxS_size]; omega
    have PUT := Lib.hid (sput_any (.slice (some ⟨g, 0, none⟩) 0 c) [] 0 (-1) 30 0 (foxS.extract 0 n) true _ W2.drew KD.out.kx.own (by simp) (RvOf.of ⟨⟨by omega, by omega⟩, ⟨by omega, by omega⟩, trivial, by simp [pend], .inl rfl⟩) (by omega) (by omega))
    go_region_law ((first
      | (go_simp; go_at_call 50; (with_reducible refine (sstream_any _).mono ?_); rintro e w9 ⟨rfl, rfl⟩)
      | (go_simp; go_at_call 52; (with_reducible refine PUT.out.mono ?_); rintro e w5 ⟨rd5, fi5, li5, v5, y5, l5, rfl, ⟨x5, rfl⟩, hb5, ho5, hn5, hrv5⟩; have KW := Lib.hid (KD.out.below hb5); obtain ⟨g5, c5, rfl, _⟩ := ho5.sl hn5; have K5 := Lib.hid (KD.out.put (rd' := rd5) (fi' := fi5) (li' := li5) (n' := 0) hb5 ho5); have HV5 := Lib.hid hrv5; have z0 := KW.out.kx.frm 0; have z1 := KW.out.kx.frm 1; have z2 := KW.out.kx.frm 2; have z3 := KW.out.kx.frm 3; have t0 := KW.out.t 0; have t1 := KW.out.t 1; have t2 := KW.out.t 2; have t3 := KW.out.t 3; clear hb5 ho5 hn5 hrv5)))
    all_goals
      clear q0 q1 q2 q3 z0 z1 z2 z3 t0 t1 t2 t3 KW PUT KD K2 f3 htn
      generalize ((((w5.setCell ⟨bx, 0, none⟩ (.int .i64 rd5)).setCell ⟨bx, 1, none⟩ (.slice (some ⟨g5, 0, none⟩) l5.length c5)).setCell ⟨bx, 2, none⟩ (.int .i64 fi5)).setCell ⟨bx, 3, none⟩ (.int .i64 li5)) = W5 at *
      have q0 := K5.out.kx.frm 0
      have q1 := K5.out.kx.frm 1
      have q2 := K5.out.kx.frm 2
      have q3 := K5.out.kx.frm 3
      go_wp2_with fail
      refine (sread_any _ l5 rd5 fi5 li5 (n : Int) W5 (Pcs.of_own K5.out.kx.own (by simp)) HV5.out (by omega) (by omega)).mono ?_
      rintro e w6 ⟨rd6, fi6, li6, v6, y6, l6, rfl, ⟨s6, rfl⟩, hb6, ho6, hn6, hrv6⟩
      have KW := Lib.hid (K5.out.below hb6)
      obtain ⟨g6, c6, rfl, _⟩ := ho6.sl hn6
      have K6 := Lib.hid (K5.out.put (rd' := rd6) (fi' := fi6) (li' := li6) (n' := 0) hb6 ho6)
      have HV6 := Lib.hid hrv6
      have z0 := KW.out.kx.frm 0
      have z1 := KW.out.kx.frm 1
      have z2 := KW.out.kx.frm 2
      have z3 := KW.out.kx.frm 3
      have t0 := KW.out.t 0
      have t1 := KW.out.t 1
      have t2 := KW.out.t 2
      have t3 := KW.out.t 3
      clear hb6 ho6 hn6 hrv6 q0 q1 q2 q3 KW
      go_upto_region 7 with fail
      clear z0 z1 z2 z3 t0 t1 t2 t3
      generalize ((((w6.setCell ⟨bx, 0, none⟩ (.int .i64 rd6)).setCell ⟨bx, 1, none⟩ (.slice (some ⟨g6, 0, none⟩) l6.length c6)).setCell ⟨bx, 2, none⟩ (.int .i64 fi6)).setCell ⟨bx, 3, none⟩ (.int .i64 li6)) = W6 at *
      have fq0 := K6.out.kx.frm 0
      have fq1 := K6.out.kx.frm 1
      have fq2 := K6.out.kx.frm 2
      have fq3 := K6.out.kx.frm 3
      have fz0 := K6.out.kx.zfrm 0
      have fz1 := K6.out.kx.zfrm 1
      have fz2 := K6.out.kx.zfrm 2
      have fz3 := K6.out.kx.zfrm 3
      have ft0 := K6.out.kx.zthaw 0
      have ft1 := K6.out.kx.zthaw 1
      have ft2 := K6.out.kx.zthaw 2
      have ft3 := K6.out.kx.zthaw 3
      have FIN := Lib.hid (K6.out.kx.fin)
      go_wp2_with fail
      clear fq0 fq1 fq2 fq3 fz0 fz1 fz2 fz3 ft0 ft1 ft2 ft3
      generalize ((((W6.setCell ⟨w.heap.size, 0, none⟩ (.int .i64 rd6)).setCell ⟨w.heap.size, 1, none⟩ (.slice (some ⟨g6, 0, none⟩) l6.length c6)).setCell ⟨w.heap.size, 2, none⟩ (.int .i64 fi6)).setCell ⟨w.heap.size, 3, none⟩ (.int .i64 li6)) = WF at *
      obtain ⟨B5, F5, O5⟩ := FIN.out
      have s0 := F5 0
      have s1 := F5 1
      have s2 := F5 2
      have s3 := F5 3
      refine bodyPost_ret (v := .agg #[.int .i64 rd6, (.slice (some ⟨g6, 0, none⟩) l6.length c6), .int .i64 fi6, .int .i64 li6]) ?hr rfl ?_
      case hr => rw [results_cell_one rfl]; go_simp
      exact ⟨rd6, fi6, li6, _, l6, rfl, B5, O5, by simp, HV6.out.bd⟩
  have hp0 : (((p : Int)) == 0) = false := by rw [beq_eq_false_iff_ne]; omega
  go_wp2_with fail
  refine (recv_any (w.heap.size + 1) _ w2 HR2.out (by omega)).mono ?_
  rintro e w3 ⟨rd, fi, li, v, l, rfl, hg3, hR3, ho3, hv3, hbd⟩
  obtain ⟨g, c, rfl, hc, hgB, hgh⟩ := ho3.sl hv3
  have HBD := Lib.hid hbd
  have hz3 := hg3.size
  have A2 : Below w3.heap.size w3 (w3.alloc (.cells #[.int .i64 rd, .slice (some ⟨g, 0, none⟩) l.length c, .int .i64 fi, .int .i64 li] 30)) := (Below.refl _ _).alloc (Nat.le_refl _) _
  have K2 : Hid (Ke w (w3.alloc (.cells #[.int .i64 rd, .slice (some ⟨g, 0, none⟩) l.length c, .int .i64 fi, .int .i64 li] 30)) (w.heap.size + 1) 200 w3.heap.size g c rd fi li l) := Lib.hid ⟨{
    bel := (BB2.out.grown hg3 BB2.out.size (fun r e => by injection e with e; omega)).alloc (by have := BB2.out.size; omega) _
    rdr := (hR3.le (k' := 200) (by omega)).below A2
    frm := Frm.new w3 30 [.int .i64 rd, .slice (some ⟨g, 0, none⟩) l.length c, .int .i64 fi, .int .i64 li]
    zfrm := (Z2.out.kept hg3 (by omega) (fun e => by injection e with e; omega)).below A2 (by omega)
    zthaw := (Y2.out.kept hg3 (by omega) (fun e => by injection e with e; omega)).below A2 (by omega)
    own := (OwnPc.lower ho3 (by omega)).below A2
    o1 := Nat.le_refl _
    o2 := Nat.lt_succ_self _
    o3 := by omega
    hi := by simp }, Thaw.new w3 30 [.int .i64 rd, .slice (some ⟨g, 0, none⟩) l.length c, .int .i64 fi, .int .i64 li], by omega⟩
  clear hg3 hR3 ho3 hv3 hbd A2 Z2 Y2 BB2 HR2 hc hgB hgh
  go_upto_region 9 with fail
  generalize hW : (w3.alloc (.cells #[.int .i64 rd, .slice (some ⟨g, 0, none⟩) l.length c, .int .i64 fi, .int .i64 li] 30)) = W2 at *
  generalize hbx : w3.heap.size = bx at *
  clear hW hbx hz3 h0
  go_wp2_with fail
  refine (pick_rdr (w.heap.size + 1) _ 2 W2 K2.out.kx.rdr (by omega) (by omega) (by omega)).mono ?_
  rintro e w4 ⟨q, hq, rfl, hg4, hR4⟩
  have K4 := Lib.hid (K2.out.pick hg4 hR4)
  clear hg4 hR4 K2
  by_cases hq0 : q = 0
  case neg =>
    have hqb : (((q : Int)) == 0) = false := by rw [beq_eq_false_iff_ne]; omega
    clear hq0
    have fq0 := K4.out.kx.frm 0
    have fq1 := K4.out.kx.frm 1
    have fq2 := K4.out.kx.frm 2
    have fq3 := K4.out.kx.frm 3
    have fz0 := K4.out.kx.zfrm 0
    have fz1 := K4.out.kx.zfrm 1
    have fz2 := K4.out.kx.zfrm 2
    have fz3 := K4.out.kx.zfrm 3
    have ft0 := K4.out.kx.zthaw 0
    have ft1 := K4.out.kx.zthaw 1
    have ft2 := K4.out.kx.zthaw 2
    have ft3 := K4.out.kx.zthaw 3
    have FIN := Lib.hid (K4.out.kx.fin)
    go_wp2_with fail
    clear fq0 fq1 fq2 fq3 fz0 fz1 fz2 fz3 ft0 ft1 ft2 ft3
    generalize ((((w4.setCell ⟨w.heap.size, 0, none⟩ (.int .i64 rd)).setCell ⟨w.heap.size, 1, none⟩ (.slice (some ⟨g, 0, none⟩) l.length c)).setCell ⟨w.heap.size, 2, none⟩ (.int .i64 fi)).setCell ⟨w.heap.size, 3, none⟩ (.int .i64 li)) = WF at *
    obtain ⟨B5, F5, O5⟩ := FIN.out
    have s0 := F5 0
    have s1 := F5 1
    have s2 := F5 2
    have s3 := F5 3
    refine bodyPost_ret (v := .agg #[.int .i64 rd, (.slice (some ⟨g, 0, none⟩) l.length c), .int .i64 fi, .int .i64 li]) ?hr rfl ?_
    case hr => rw [results_cell_one rfl]; go_simp
    exact ⟨rd, fi, li, _, l, rfl, B5, O5, by simp, HBD.out⟩
  subst hq0
  have q0 := K4.out.kx.frm 0
  have q1 := K4.out.kx.frm 1
  have q2 := K4.out.kx.frm 2
  have q3 := K4.out.kx.frm 3
  have HP4 := Lib.hid (Pcs.of_own K4.out.kx.own (by simp))
  have CV := Lib.hid (srvval_any _ l rd fi li w4 HP4.out (by have := HBD.out.2.2.2.2.1; omega) (fun p hp => by have := (HBD.out.2.2.2.2.2 p hp).2.2; omega))
  go_wp2_with fail
  refine CV.out.mono ?_
  rintro e w5 ⟨rfl, hb5⟩
  have K5 := Lib.hid (K4.out.below hb5)
  clear hb5 CV HP4 q0 q1 q2 q3 K4
  by_cases hv : rvok rd l fi li
  case neg =>
    rw [decide_eq_false hv]
    clear hv
    have fq0 := K5.out.kx.frm 0
    have fq1 := K5.out.kx.frm 1
    have fq2 := K5.out.kx.frm 2
    have fq3 := K5.out.kx.frm 3
    have fz0 := K5.out.kx.zfrm 0
    have fz1 := K5.out.kx.zfrm 1
    have fz2 := K5.out.kx.zfrm 2
    have fz3 := K5.out.kx.zfrm 3
    have ft0 := K5.out.kx.zthaw 0
    have ft1 := K5.out.kx.zthaw 1
    have ft2 := K5.out.kx.zthaw 2
    have ft3 := K5.out.kx.zthaw 3
    have FIN := Lib.hid (K5.out.kx.fin)
    go_wp2_with fail
    clear fq0 fq1 fq2 fq3 fz0 fz1 fz2 fz3 ft0 ft1 ft2 ft3
    generalize ((((w5.setCell ⟨w.heap.size, 0, none⟩ (.int .i64 rd)).setCell ⟨w.heap.size, 1, none⟩ (.slice (some ⟨g, 0, none⟩) l.length c)).setCell ⟨w.heap.size, 2, none⟩ (.int .i64 fi)).setCell ⟨w.heap.size, 3, none⟩ (.int .i64 li)) = WF at *
    obtain ⟨B5, F5, O5⟩ := FIN.out
    have s0 := F5 0
    have s1 := F5 1
    have s2 := F5 2
    have s3 := F5 3
    refine bodyPost_ret (v := .agg #[.int .i64 rd, (.slice (some ⟨g, 0, none⟩) l.length c), .int .i64 fi, .int .i64 li]) ?hr rfl ?_
    case hr => rw [results_cell_one rfl]; go_simp
    exact ⟨rd, fi, li, _, l, rfl, B5, O5, by simp, HBD.out⟩
  rw [decide_eq_true hv]
  have q0 := K5.out.kx.frm 0
  have q1 := K5.out.kx.frm 1
  have q2 := K5.out.kx.frm 2
  have q3 := K5.out.kx.frm 3
  have HV := Lib.hid (RvOf.of hv)
  clear hv
  go_wp2_with fail
  refine (sread_any _ l rd fi li 30 w5 (Pcs.of_own K5.out.kx.own (by simp)) HV.out (by omega) (by omega)).mono ?_
  rintro e w6 ⟨rd6, fi6, li6, v6, y6, l6, rfl, ⟨s6, rfl⟩, hb6, ho6, hn6, hrv6⟩
  obtain ⟨g6, c6, rfl, _⟩ := ho6.sl hn6
  have BY : Hid (Below w6.heap.size w6 (w6.alloc (.cells #[.int .i64 rd6, .slice (some ⟨g6, 0, none⟩) l6.length c6, .int .i64 fi6, .int .i64 li6] 30))) := Lib.hid ((Below.refl _ _).alloc (Nat.le_refl _) _)
  have FY := Lib.hid (Frm.new w6 30 [.int .i64 rd6, .slice (some ⟨g6, 0, none⟩) l6.length c6, .int .i64 fi6, .int .i64 li6])
  have BW := Lib.hid (hb6.trans (BY.out.mono hb6.size))
  have OY := Lib.hid (ho6.below BY.out)
  have KW := Lib.hid (K5.out.below BW.out)
  have K6 := Lib.hid (K5.out.put (rd' := rd6) (fi' := fi6) (li' := li6) (n' := 0) BW.out OY.out)
  have HV6 := Lib.hid hrv6
  clear hb6 ho6 hn6 hrv6 q0 q1 q2 q3
  go_upto_region 11 with fail
  generalize w6.alloc (.cells #[.int .i64 rd6, .slice (some ⟨g6, 0, none⟩) l6.length c6, .int .i64 fi6, .int .i64 li6] 30) = X6 at *
  have y0 := FY.out 0
  have y1 := FY.out 1
  have y2 := FY.out 2
  have y3 := FY.out 3
  have z0 := KW.out.kx.frm 0
  have z1 := KW.out.kx.frm 1
  have z2 := KW.out.kx.frm 2
  have z3 := KW.out.kx.frm 3
  have t0 := KW.out.t 0
  have t1 := KW.out.t 1
  have t2 := KW.out.t 2
  have t3 := KW.out.t 3
  go_upto_region 12 with fail
  clear y0 y1 y2 y3 z0 z1 z2 z3 t0 t1 t2 t3 FY BY BW OY KW
  generalize ((((X6.setCell ⟨bx, 0, none⟩ (.int .i64 rd6)).setCell ⟨bx, 1, none⟩ (.slice (some ⟨g6, 0, none⟩) l6.length c6)).setCell ⟨bx, 2, none⟩ (.int .i64 fi6)).setCell ⟨bx, 3, none⟩ (.int .i64 li6)) = W6 at *
  go_wp2_with fail
  refine (pick_rdr (w.heap.size + 1) _ 2 W6 K6.out.kx.rdr (by omega) (by omega) (by omega)).mono ?_
  rintro e w7 ⟨q7, hq7, rfl, hg7, hR7⟩
  have K7 := Lib.hid (K6.out.pick hg7 hR7)
  clear hg7 hR7 K6
  by_cases hq0 : q7 = 0
  case neg =>
    have hqb : (((q7 : Int)) == 0) = false := by rw [beq_eq_false_iff_ne]; omega
    clear hq0
    have fq0 := K7.out.kx.frm 0
    have fq1 := K7.out.kx.frm 1
    have fq2 := K7.out.kx.frm 2
    have fq3 := K7.out.kx.frm 3
    have fz0 := K7.out.kx.zfrm 0
    have fz1 := K7.out.kx.zfrm 1
    have fz2 := K7.out.kx.zfrm 2
    have fz3 := K7.out.kx.zfrm 3
    have ft0 := K7.out.kx.zthaw 0
    have ft1 := K7.out.kx.zthaw 1
    have ft2 := K7.out.kx.zthaw 2
    have ft3 := K7.out.kx.zthaw 3
    have FIN := Lib.hid (K7.out.kx.fin)
    go_wp2_with fail
    clear fq0 fq1 fq2 fq3 fz0 fz1 fz2 fz3 ft0 ft1 ft2 ft3
    generalize ((((w7.setCell ⟨w.heap.size, 0, none⟩ (.int .i64 rd6)).setCell ⟨w.heap.size, 1, none⟩ (.slice (some ⟨g6, 0, none⟩) l6.length c6)).setCell ⟨w.heap.size, 2, none⟩ (.int .i64 fi6)).setCell ⟨w.heap.size, 3, none⟩ (.int .i64 li6)) = WF at *
    obtain ⟨B5, F5, O5⟩ := FIN.out
    have s0 := F5 0
    have s1 := F5 1
    have s2 := F5 2
    have s3 := F5 3
    refine bodyPost_ret (v := .agg #[.int .i64 rd6, (.slice (some ⟨g6, 0, none⟩) l6.length c6), .int .i64 fi6, .int .i64 li6]) ?hr rfl ?_
    case hr => rw [results_cell_one rfl]; go_simp
    exact ⟨rd6, fi6, li6, _, l6, rfl, B5, O5, by simp, HV6.out.bd⟩
  subst hq0
  by_cases hz : l6.length = 0
  case neg =>
    have hzb : ((l6.length : Int) == 0) = false := by rw [beq_eq_false_iff_ne]; omega
    clear hz
    have fq0 := K7.out.kx.frm 0
    have fq1 := K7.out.kx.frm 1
    have fq2 := K7.out.kx.frm 2
    have fq3 := K7.out.kx.frm 3
    have fz0 := K7.out.kx.zfrm 0
    have fz1 := K7.out.kx.zfrm 1
    have fz2 := K7.out.kx.zfrm 2
    have fz3 := K7.out.kx.zfrm 3
    have ft0 := K7.out.kx.zthaw 0
    have ft1 := K7.out.kx.zthaw 1
    have ft2 := K7.out.kx.zthaw 2
    have ft3 := K7.out.kx.zthaw 3
    have FIN := Lib.hid (K7.out.kx.fin)
    go_wp2_with fail
    clear fq0 fq1 fq2 fq3 fz0 fz1 fz2 fz3 ft0 ft1 ft2 ft3
    generalize ((((w7.setCell ⟨w.heap.size, 0, none⟩ (.int .i64 rd6)).setCell ⟨w.heap.size, 1, none⟩ (.slice (some ⟨g6, 0, none⟩) l6.length c6)).setCell ⟨w.heap.size, 2, none⟩ (.int .i64 fi6)).setCell ⟨w.heap.size, 3, none⟩ (.int .i64 li6)) = WF at *
    obtain ⟨B5, F5, O5⟩ := FIN.out
    have s0 := F5 0
    have s1 := F5 1
    have s2 := F5 2
    have s3 := F5 3
    refine bodyPost_ret (v := .agg #[.int .i64 rd6, (.slice (some ⟨g6, 0, none⟩) l6.length c6), .int .i64 fi6, .int .i64 li6]) ?hr rfl ?_
    case hr => rw [results_cell_one rfl]; go_simp
    exact ⟨rd6, fi6, li6, _, l6, rfl, B5, O5, by simp, HV6.out.bd⟩
  have hzb : ((l6.length : Int) == 0) = true := by rw [hz]; rfl
  clear hz
  have q0 := K7.out.kx.frm 0
  have q1 := K7.out.kx.frm 1
  have q2 := K7.out.kx.frm 2
  have q3 := K7.out.kx.frm 3
  have t2 := K7.out.t 2
  have K8 := Lib.hid (K7.out.set2 rd6)
  go_upto_region 14 with fail
  clear q0 q1 q2 q3 t2
  generalize w7.setCell ⟨bx, 2, none⟩ (.int .i64 rd6) = W8 at *
  have fq0 := K8.out.kx.frm 0
  have fq1 := K8.out.kx.frm 1
  have fq2 := K8.out.kx.frm 2
  have fq3 := K8.out.kx.frm 3
  have fz0 := K8.out.kx.zfrm 0
  have fz1 := K8.out.kx.zfrm 1
  have fz2 := K8.out.kx.zfrm 2
  have fz3 := K8.out.kx.zfrm 3
  have ft0 := K8.out.kx.zthaw 0
  have ft1 := K8.out.kx.zthaw 1
  have ft2 := K8.out.kx.zthaw 2
  have ft3 := K8.out.kx.zthaw 3
  have FIN := Lib.hid (K8.out.kx.fin)
  go_wp2_with fail
  clear fq0 fq1 fq2 fq3 fz0 fz1 fz2 fz3 ft0 ft1 ft2 ft3
  generalize ((((W8.setCell ⟨w.heap.size, 0, none⟩ (.int .i64 rd6)).setCell ⟨w.heap.size, 1, none⟩ (.slice (some ⟨g6, 0, none⟩) l6.length c6)).setCell ⟨w.heap.size, 2, none⟩ (.int .i64 rd6)).setCell ⟨w.heap.size, 3, none⟩ (.int .i64 li6)) = WF at *
  obtain ⟨B5, F5, O5⟩ := FIN.out
  have s0 := F5 0
  have s1 := F5 1
  have s2 := F5 2
  have s3 := F5 3
  refine bodyPost_ret (v := .agg #[.int .i64 rd6, (.slice (some ⟨g6, 0, none⟩) l6.length c6), .int .i64 rd6, .int .i64 li6]) ?hr rfl ?_
  case hr => rw [results_cell_one rfl]; go_simp
  exact ⟨rd6, rd6, li6, _, l6, rfl, B5, O5, by simp, HV6.out.bd⟩
end Go.Proofs.Ytdhdomnhgcejhaa
