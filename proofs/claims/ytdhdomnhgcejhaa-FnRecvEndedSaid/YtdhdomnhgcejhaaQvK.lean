/- Chapter 31's draws: DrawRecvPut. -/
import Derived.Test.YtdhdomnhgcejhaaQvG
namespace Go.Proofs.Ytdhdomnhgcejhaa
open Go.RowKit
set_option linter.unusedVariables false
set_option linter.unusedSimpArgs false

/-- Where DrawRecvPut stands: its result's block, the reader's, the variable x's. -/
structure Kx (w W : World) (br b k bx g c : Nat) (rd fi li : Int) (l : List Pc) : Prop where
  bel : Below w.heap.size w W
  rdr : Rdr W b k
  frm : Frm W bx [.int .i64 rd, .slice (some ⟨g, 0, none⟩) l.length c, .int .i64 fi, .int .i64 li]
  zfrm : Frm W br [.int .i64 0, .slice none 0 0, .int .i64 0, .int .i64 0]
  zthaw : Thaw W br
  own : OwnPc W (b + 1) (.slice (some ⟨g, 0, none⟩) l.length c) l
  o1 : w.heap.size ≤ br
  o2 : br < b
  o3 : b < bx
  hi : bx < W.heap.size
theorem Kx.pick {w W W' : World} {br b k k' bx g c : Nat} {rd fi li : Int} {l : List Pc} (h : Kx w W br b k bx g c rd fi li l) (hg : W.grownBy W' (some b)) (hR : Rdr W' b k') : Kx w W' br b k' bx g c rd fi li l where
  bel := h.bel.grown hg h.bel.size fun r e => by injection e with e; have := h.o1; have := h.o2; omega
  rdr := hR
  frm := h.frm.kept hg h.hi fun e => by injection e with e; have := h.o3; omega
  zfrm := h.zfrm.kept hg (by have := h.o2; have := h.o3; have := h.hi; omega) fun e => by injection e with e; have := h.o2; omega
  zthaw := h.zthaw.kept hg (by have := h.o2; have := h.o3; have := h.hi; omega) fun e => by injection e with e; have := h.o2; omega
  own := World.ownsRow.kept h.own hg (.inr fun e => by have e' : g = b := Option.some.inj e; have := h.own.lt.1; omega)
  o1 := h.o1
  o2 := h.o2
  o3 := h.o3
  hi := Nat.lt_of_lt_of_le h.hi hg.size
theorem Kx.drew {w W : World} {br b k bx g c : Nat} {rd fi li : Int} {l : List Pc} (h : Kx w W br b k bx g c rd fi li l) : Kx w W.drew br b k bx g c rd fi li l :=
  { h with bel := h.bel.drew, rdr := h.rdr.below (Below.refl _ _).drew, own := h.own.below (Below.refl _ _).drew }
theorem Kx.le {w W : World} {br b k k' bx g c : Nat} {rd fi li : Int} {l : List Pc} (h : Kx w W br b k bx g c rd fi li l) (hk : k ≤ k') : Kx w W br b k' bx g c rd fi li l := { h with rdr := h.rdr.le hk }
theorem Kx.fin {w W : World} {b k bx g c : Nat} {rd fi li : Int} {l : List Pc} (h : Kx w W w.heap.size b k bx g c rd fi li l) :
    Below w.heap.size w ((((W.setCell ⟨w.heap.size, 0, none⟩ (.int .i64 rd)).setCell ⟨w.heap.size, 1, none⟩ (.slice (some ⟨g, 0, none⟩) l.length c)).setCell ⟨w.heap.size, 2, none⟩ (.int .i64 fi)).setCell ⟨w.heap.size, 3, none⟩ (.int .i64 li)) ∧
    Frm ((((W.setCell ⟨w.heap.size, 0, none⟩ (.int .i64 rd)).setCell ⟨w.heap.size, 1, none⟩ (.slice (some ⟨g, 0, none⟩) l.length c)).setCell ⟨w.heap.size, 2, none⟩ (.int .i64 fi)).setCell ⟨w.heap.size, 3, none⟩ (.int .i64 li)) w.heap.size [.int .i64 rd, .slice (some ⟨g, 0, none⟩) l.length c, .int .i64 fi, .int .i64 li] ∧
    OwnPc ((((W.setCell ⟨w.heap.size, 0, none⟩ (.int .i64 rd)).setCell ⟨w.heap.size, 1, none⟩ (.slice (some ⟨g, 0, none⟩) l.length c)).setCell ⟨w.heap.size, 2, none⟩ (.int .i64 fi)).setCell ⟨w.heap.size, 3, none⟩ (.int .i64 li)) w.heap.size (.slice (some ⟨g, 0, none⟩) l.length c) l := by
  have hne : ∀ x, (Value.slice (some ⟨g, 0, none⟩) l.length c).ownBlock = some x → w.heap.size ≠ x := fun x hx => by
    have hx' : g = x := Option.some.inj hx
    have := h.own.lt.1
    have := h.o2
    omega
  exact ⟨Below.setCell (Below.setCell (Below.setCell (Below.setCell h.bel (p := ⟨w.heap.size, 0, none⟩) (Nat.le_refl _) _) (p := ⟨w.heap.size, 1, none⟩) (Nat.le_refl _) _) (p := ⟨w.heap.size, 2, none⟩) (Nat.le_refl _) _) (p := ⟨w.heap.size, 3, none⟩) (Nat.le_refl _) _,
    (((h.zfrm.set (i := 0) (by simp) (.int .i64 rd)).set (i := 1) (by simp) (.slice (some ⟨g, 0, none⟩) l.length c)).set (i := 2) (by simp) (.int .i64 fi)).set (i := 3) (by simp) (.int .i64 li),
    OwnPc.lower (own_far (i := 3) (u := .int .i64 li) (own_far (i := 2) (u := .int .i64 fi) (own_far (i := 1) (u := .slice (some ⟨g, 0, none⟩) l.length c) (own_far (i := 0) (u := .int .i64 rd) h.own hne) hne) hne) hne) (by have := h.o2; omega)⟩
def GotRp (w : World) (e : Ending) (w' : World) : Prop := ∃ (rd fi li : Int) (v : Value) (l : List Pc) (off : Int) (d : ByteArray) (fin : Bool), e = .returned (.tuple #[.agg #[.int .i64 rd, v, .int .i64 fi, .int .i64 li], .int .i64 off, .string d, .bool fin]) ∧ Below w.heap.size w w' ∧ OwnPc w' w.heap.size v l ∧ v ≠ .slice none 0 0 ∧ RvBd rd li l ∧ (-2 ≤ off ∧ off ≤ 31) ∧ d.size ≤ 13

theorem results_cell_tmp3 {fn : Func} {p x y z : Tmp} {ty : TypeId} (h : fn.results = #[.cell p ty, .tmp x, .tmp y, .tmp z]) (tmps : Array Value) (P : Program) (w : World) :
    (results fn tmps).run P w = ((asAddr (tmps.getD p undef)).run P w).andThen fun a w₁ => ((loadVar ty a).run P w₁).andThen fun v w₂ => .ok (.tuple #[v, tmps.getD x undef, tmps.getD y undef, tmps.getD z undef]) w₂ := by
  simp only [results, h]
  simp [Sem.run_bind, Result.andThen]

set_option maxRecDepth 100000 in
set_option maxHeartbeats 8000000 in
theorem drawRp_any (a : Option Addr) (len cap : Nat) (zs : List Int) (w : World) (h : IsRow .u8 w a len cap zs) :
    Calls Try.prog 23 #[.slice a len cap] w (GotRp w) := by
  have B0 : Below w.heap.size w (w.alloc (.cells #[.int .i64 0, .slice none 0 0, .int .i64 0, .int .i64 0] 30)) := (Below.refl _ _).alloc (Nat.le_refl _) _
  have H := Lib.hid (IsRow.keep h (w' := w.alloc (.cells #[.int .i64 0, .slice none 0 0, .int .i64 0, .int .i64 0] 30)) (fun x _ _ i v hv => (B0.cell (World.block_lt_of_cell? w _ hv)).trans hv))
  have Z0 := Lib.hid (Frm.new w 30 [.int .i64 0, .slice none 0 0, .int .i64 0, .int .i64 0])
  have Y0 := Lib.hid (Thaw.new w 30 [.int .i64 0, .slice none 0 0, .int .i64 0, .int .i64 0])
  have BB0 := Lib.hid B0
  have hs0 : (w.alloc (.cells #[.int .i64 0, .slice none 0 0, .int .i64 0, .int .i64 0] 30)).heap.size = w.heap.size + 1 := by simp
  have HS0 := Lib.hid hs0
  clear h B0 hs0
  go_enter Try.func23, Try.ntmps23
  go_wp2_with fail
  refine (open_any a len cap zs _ H.out).mono ?_
  rintro e w1 ⟨rfl, hb1, hR1⟩
  have hs1 := hb1.size
  rw [HS0.out] at hb1 hR1
  have Z1 := Lib.hid (Frm.below Z0.out hb1 (Nat.lt_succ_self _))
  have Y1 := Lib.hid (Thaw.below Y0.out hb1 (Nat.lt_succ_self _))
  have BB1 := Lib.hid (BB0.out.trans (hb1.mono (Nat.le_succ _)))
  have HR1 := Lib.hid hR1
  clear hb1 hR1 Z0 Y0 BB0 H hs1
  have hs0 : (w.alloc (.cells #[.int .i64 0, .slice none 0 0, .int .i64 0, .int .i64 0] 30)).heap.size = w.heap.size + 1 := HS0.out
  go_wp2_with fail
  refine (recv_any (w.heap.size + 1) 0 w1 HR1.out (by omega)).mono ?_
  rintro e w2 ⟨rd, fi, li, v, l, rfl, hg2, hR2, ho2, hv2, hbd⟩
  obtain ⟨g, c, rfl, hc, hgB, hgh⟩ := ho2.sl hv2
  have HBD := Lib.hid hbd
  have hb1s : w.heap.size + 1 < w1.heap.size := HR1.out.1
  have A2 : Below w2.heap.size w2 (w2.alloc (.cells #[.int .i64 rd, .slice (some ⟨g, 0, none⟩) l.length c, .int .i64 fi, .int .i64 li] 30)) := (Below.refl _ _).alloc (Nat.le_refl _) _
  have hz2 := hg2.size
  have K2 : Hid (Kx w (w2.alloc (.cells #[.int .i64 rd, .slice (some ⟨g, 0, none⟩) l.length c, .int .i64 fi, .int .i64 li] 30)) w.heap.size (w.heap.size + 1) 100 w2.heap.size g c rd fi li l) := Lib.hid {
    bel := (BB1.out.grown hg2 BB1.out.size (fun r e => by injection e with e; omega)).alloc (by have := BB1.out.size; omega) _
    rdr := (hR2.le (by omega)).below A2
    frm := Frm.new w2 30 [.int .i64 rd, .slice (some ⟨g, 0, none⟩) l.length c, .int .i64 fi, .int .i64 li]
    zfrm := (Z1.out.kept hg2 (by omega) (fun e => by injection e with e; omega)).below A2 (by omega)
    zthaw := (Y1.out.kept hg2 (by omega) (fun e => by injection e with e; omega)).below A2 (by omega)
    own := (OwnPc.lower ho2 (by omega)).below A2
    o1 := Nat.le_refl _
    o2 := Nat.lt_succ_self _
    o3 := by omega
    hi := by simp }
  clear hg2 hR2 ho2 hv2 hbd A2 Z1 Y1 BB1 HR1 hc hgB hgh
  go_upto_region 3 with fail
  generalize hW : (w2.alloc (.cells #[.int .i64 rd, .slice (some ⟨g, 0, none⟩) l.length c, .int .i64 fi, .int .i64 li] 30)) = W2 at *
  generalize hbx : w2.heap.size = bx at *
  clear hW hbx hz2 hb1s
  go_wp2_with fail
  refine (pick_rdr _ _ _ _ K2.out.rdr (by omega) (by omega) (by omega)).mono ?_
  rintro e w3 ⟨at', hat, rfl, hg3, hR3⟩
  have K3 := Lib.hid (K2.out.pick hg3 hR3)
  clear hg3 hR3 K2
  go_wp2_with fail
  refine (sstream_any _).mono ?_
  rintro e w3' ⟨rfl, rfl⟩
  go_wp2_with fail
  refine (pick_rdr _ _ _ _ K3.out.rdr (by omega) (by omega) (by omega)).mono ?_
  rintro e w4 ⟨y4, hy4, rfl, hg4, hR4⟩
  have K4 := Lib.hid (K3.out.pick hg4 hR4)
  clear hg4 hR4 K3
  have hw4 : IntKind.i64.wrap ((at' : Int) + (y4 : Int)) = (at' : Int) + (y4 : Int) := IntWalk.i64_in _ (by omega)
  obtain ⟨en, hen, hen1, hen2⟩ := min_en (at' := at') (y := y4) (li := 30) (by omega)
  have f1 : (0 : Int) ≤ (at' : Int) := by omega
  have f2 : (at' : Int) ≤ (en : Int) := by omega
  have f3 : (en : Int) ≤ (foxS.size : Int) := by rw [foxS_size]; omega
  have hd4 : (foxS.extract at' en).size ≤ 10 := by rw [fox_part at' en hen1 (by omega)]; (split at hen <;> omega)
  go_upto_region 5 with fail
  clear hen hw4 f1 f2 f3 hy4
  have HD4 := Lib.hid hd4
  generalize foxS.extract at' en = d0 at *
  clear hd4
  go_wp2_with fail
  refine (pick_rdr _ _ _ _ K4.out.rdr (by omega) (by omega) (by omega)).mono ?_
  rintro e w5 ⟨sw, hsw, rfl, hg5, hR5⟩
  have K5 := Lib.hid (K4.out.pick hg5 hR5)
  clear hg5 hR5 K4
  go_upto_block 0 with fail
  go_cut [8, 9] (fun av dv wx => ∃ (off : Int) (d : ByteArray), av = .int .i64 off ∧ dv = .string d ∧ (-2 ≤ off ∧ off ≤ 31) ∧ Hid (d.size ≤ 12) ∧ Hid (Kx w wx w.heap.size (w.heap.size + 1) 110 bx g c rd fi li l))
  case first =>
    have hsw5 : sw = 0 ∨ sw = 1 ∨ sw = 2 ∨ 3 ≤ sw := by omega
    rcases hsw5 with rfl | rfl | rfl | hsw5
    · go_wp2_with fail
      refine (data_any _ _ _ K5.out.rdr (by omega)).mono ?_
      rintro e w6 ⟨d6, hd6, rfl, hg6, hR6⟩
      have K6 := Lib.hid (K5.out.pick hg6 hR6)
      have HD6 := Lib.hid hd6
      clear hg6 hR6 hd6
      go_wp2_with fail
      go_meet
      exact ⟨_, _, rfl, rfl, by omega, HD6, Lib.hid (K6.out.le (by omega))⟩
    · go_wp2_with fail
      refine (pick_rdr _ _ _ _ K5.out.rdr (by omega) (by omega) (by omega)).mono ?_
      rintro e w6 ⟨y6, hy6, rfl, hg6, hR6⟩
      have K6 := Lib.hid (K5.out.pick hg6 hR6)
      have hw6 : IntKind.i64.wrap ((y6 : Int) - 2) = (y6 : Int) - 2 := IntWalk.i64_in _ (by omega)
      clear hg6 hR6
      go_wp2_with fail
      go_meet
      exact ⟨_, _, rfl, rfl, by omega, Lib.hid (Nat.le_trans HD4.out (by omega)), Lib.hid (K6.out.le (by omega))⟩
    · have hsz : ¬ 9223372036854775807 < d0.size + 1 := by have := HD4.out; omega
      have hsz2 : ¬ 9223372036854775807 < d0.size + (ByteArray.mk #[33]).size := by have := HD4.out; show ¬ 9223372036854775807 < d0.size + 1; omega
      go_wp2_with fail
      go_meet
      exact ⟨_, _, rfl, rfl, by omega, Lib.hid (by rw [ByteArray.size_append]; have := HD4.out; show d0.size + 1 ≤ 12; omega), Lib.hid (K5.out.le (by omega))⟩
    · have b0 : ((sw : Int) == 0) = false := by rw [beq_eq_false_iff_ne]; omega
      have b1 : ((sw : Int) == 1) = false := by rw [beq_eq_false_iff_ne]; omega
      have b2 : ((sw : Int) == 2) = false := by rw [beq_eq_false_iff_ne]; omega
      go_wp2_with fail
      go_meet
      exact ⟨_, _, rfl, rfl, by omega, Lib.hid (Nat.le_trans HD4.out (by omega)), Lib.hid (K5.out.le (by omega))⟩
  case rest =>
    clear K5 HD4 hsw
    obtain ⟨off, d, rfl, rfl, hoff, HD, K6⟩ := hcut
    have KD := Lib.hid K6.out.drew
    have q0 := K6.out.frm 0
    have q1 := K6.out.frm 1
    have q2 := K6.out.frm 2
    have q3 := K6.out.frm 3
    go_upto_region 12 with fail
    go_region_with ((go_at_call 49; (with_reducible refine (pick_rdr _ _ _ _ KD.out.rdr (by omega) (by omega) (by omega)).mono ?_); rintro e w7 ⟨y7, hy7, rfl, hg7, hR7⟩; have K7 := Lib.hid (KD.out.pick hg7 hR7); have p0 := K7.out.frm 0; have p1 := K7.out.frm 1; have p2 := K7.out.frm 2; have p3 := K7.out.frm 3; have z0 := K7.out.zfrm 0; have z1 := K7.out.zfrm 1; have z2 := K7.out.zfrm 2; have z3 := K7.out.zfrm 3; have zt0 := K7.out.zthaw 0; have zt1 := K7.out.zthaw 1; have zt2 := K7.out.zthaw 2; have zt3 := K7.out.zthaw 3; have FIN := Lib.hid K7.out.fin; obtain ⟨q7, hq7⟩ : ∃ q7, ((y7 : Int) == 0) = q7 := ⟨_, rfl⟩))
    all_goals
      go_wp2_with fail
      clear q0 q1 q2 q3 p0 p1 p2 p3 z0 z1 z2 z3 zt0 zt1 zt2 zt3 hq7
      generalize ((((w7.setCell ⟨w.heap.size, 0, none⟩ (.int .i64 rd)).setCell ⟨w.heap.size, 1, none⟩ (.slice (some ⟨g, 0, none⟩) l.length c)).setCell ⟨w.heap.size, 2, none⟩ (.int .i64 fi)).setCell ⟨w.heap.size, 3, none⟩ (.int .i64 li)) = W7 at *
      obtain ⟨B5, F5, O5⟩ := FIN.out
      have s0 := F5 0
      have s1 := F5 1
      have s2 := F5 2
      have s3 := F5 3
      refine bodyPost_ret (v := .tuple #[.agg #[.int .i64 rd, .slice (some ⟨g, 0, none⟩) l.length c, .int .i64 fi, .int .i64 li], .int .i64 off, .string d, .bool q7]) ?hr rfl ?_
      case hr => rw [results_cell_tmp3 rfl]; go_simp
      exact ⟨rd, fi, li, _, l, off, d, q7, rfl, B5, O5, by simp, HBD.out, hoff, Nat.le_trans HD.out (by omega)⟩

end Go.Proofs.Ytdhdomnhgcejhaa
