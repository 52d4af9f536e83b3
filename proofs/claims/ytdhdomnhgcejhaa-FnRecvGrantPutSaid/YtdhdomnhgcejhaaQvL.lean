/- Chapter 31's draws: DrawRecvRead, DrawRecvGrant. -/
import Derived.Test.YtdhdomnhgcejhaaQvK
namespace Go.Proofs.Ytdhdomnhgcejhaa
open Go.RowKit
set_option linter.unusedVariables false
set_option linter.unusedSimpArgs false

def GotRi (w : World) (e : Ending) (w' : World) : Prop := ∃ (rd fi li : Int) (v : Value) (l : List Pc) (n : Int), e = .returned (.tuple #[.agg #[.int .i64 rd, v, .int .i64 fi, .int .i64 li], .int .i64 n]) ∧ Below w.heap.size w w' ∧ OwnPc w' w.heap.size v l ∧ v ≠ .slice none 0 0 ∧ RvBd rd li l ∧ lbnd n

set_option maxRecDepth 100000 in
set_option maxHeartbeats 8000000 in
theorem drawRr_any (a : Option Addr) (len cap : Nat) (zs : List Int) (w : World) (h : IsRow .u8 w a len cap zs) :
    Calls Try.prog 28 #[.slice a len cap] w (GotRi w) := by
  have B0 : Below w.heap.size w (w.alloc (.cells #[.int .i64 0, .slice none 0 0, .int .i64 0, .int .i64 0] 30)) := (Below.refl _ _).alloc (Nat.le_refl _) _
  have H := Lib.hid (IsRow.keep h (w' := w.alloc (.cells #[.int .i64 0, .slice none 0 0, .int .i64 0, .int .i64 0] 30)) (fun x _ _ i v hv => (B0.cell (World.block_lt_of_cell? w _ hv)).trans hv))
  have Z0 := Lib.hid (Frm.new w 30 [.int .i64 0, .slice none 0 0, .int .i64 0, .int .i64 0])
  have Y0 := Lib.hid (Thaw.new w 30 [.int .i64 0, .slice none 0 0, .int .i64 0, .int .i64 0])
  have BB0 := Lib.hid B0
  have hs0 : (w.alloc (.cells #[.int .i64 0, .slice none 0 0, .int .i64 0, .int .i64 0] 30)).heap.size = w.heap.size + 1 := by simp
  have HS0 := Lib.hid hs0
  clear h B0 hs0
  go_enter Try.func28, Try.ntmps28
  go_wp2_with fail
  refine (open_any a len cap zs _ H.out).mono ?_
  rintro e w1 ⟨rfl, hb1, hR1⟩
  have hs1 := hb1.size
  rw [HS0.out] at hb1 hR1
  have Z1 := Lib.hid (Frm.below Z0.out hb1 (Nat.lt_succ_self _))
  have Y1 := Lib.hid (Thaw.below Y0.out hb1 (Nat.lt_succ_self _))
  have BB1 := Lib.hid (BB0.out.trans (hb1.mono (Nat.le_succ _)))
  have HR1 := Lib.hid hR1
  clear hb1 hR1 Z0 Y0 BB0 H hs1
  have hs0 : (w.alloc (.cells #[.int .i64 0, .slice none 0 0, .int .i64 0, .int .i64 0] 30)).heap.size = w.heap.size + 1 := HS0.out
  go_wp2_with fail
  refine (recv_any (w.heap.size + 1) 0 w1 HR1.out (by omega)).mono ?_
  rintro e w2 ⟨rd, fi, li, v, l, rfl, hg2, hR2, ho2, hv2, hbd⟩
  obtain ⟨g, c, rfl, hc, hgB, hgh⟩ := ho2.sl hv2
  have HBD := Lib.hid hbd
  have hb1s : w.heap.size + 1 < w1.heap.size := HR1.out.1
  have A2 : Below w2.heap.size w2 (w2.alloc (.cells #[.int .i64 rd, .slice (some ⟨g, 0, none⟩) l.length c, .int .i64 fi, .int .i64 li] 30)) := (Below.refl _ _).alloc (Nat.le_refl _) _
  have hz2 := hg2.size
  have K2 : Hid (Kx w (w2.alloc (.cells #[.int .i64 rd, .slice (some ⟨g, 0, none⟩) l.length c, .int .i64 fi, .int .i64 li] 30)) w.heap.size (w.heap.size + 1) 100 w2.heap.size g c rd fi li l) := Lib.hid {
    bel := (BB1.out.grown hg2 BB1.out.size (fun r e => by injection e with e; omega)).alloc (by have := BB1.out.size; omega) _
    rdr := (hR2.le (by omega)).below A2
    frm := Frm.new w2 30 [.int .i64 rd, .slice (some ⟨g, 0, none⟩) l.length c, .int .i64 fi, .int .i64 li]
    zfrm := (Z1.out.kept hg2 (by omega) (fun e => by injection e with e; omega)).below A2 (by omega)
    zthaw := (Y1.out.kept hg2 (by omega) (fun e => by injection e with e; omega)).below A2 (by omega)
    own := (OwnPc.lower ho2 (by omega)).below A2
    o1 := Nat.le_refl _
    o2 := Nat.lt_succ_self _
    o3 := by omega
    hi := by simp }
  clear hg2 hR2 ho2 hv2 hbd A2 Z1 Y1 BB1 HR1 hc hgB hgh
  go_upto_region 2 with fail
  generalize hW : (w2.alloc (.cells #[.int .i64 rd, .slice (some ⟨g, 0, none⟩) l.length c, .int .i64 fi, .int .i64 li] 30)) = W2 at *
  generalize hbx : w2.heap.size = bx at *
  clear hW hbx hz2 hb1s
  have KD := Lib.hid K2.out.drew
  have q0 := K2.out.frm 0
  have q1 := K2.out.frm 1
  have q2 := K2.out.frm 2
  have q3 := K2.out.frm 3
  go_region_with ((go_at_call 53; (with_reducible refine (limit_any _ _ _ (by first | exact KD.out.rdr | exact K2.out.rdr) (by omega)).mono ?_); rintro e w7 ⟨y7, hy7, rfl, hg7, hR7⟩; have HY7 := Lib.hid hy7; have K7 := Lib.hid (KD.out.pick hg7 hR7); have p0 := K7.out.frm 0; have p1 := K7.out.frm 1; have p2 := K7.out.frm 2; have p3 := K7.out.frm 3; have z0 := K7.out.zfrm 0; have z1 := K7.out.zfrm 1; have z2 := K7.out.zfrm 2; have z3 := K7.out.zfrm 3; have zt0 := K7.out.zthaw 0; have zt1 := K7.out.zthaw 1; have zt2 := K7.out.zthaw 2; have zt3 := K7.out.zthaw 3; have FIN := Lib.hid K7.out.fin))
  all_goals
    go_wp2_with fail
    clear q0 q1 q2 q3 p0 p1 p2 p3 z0 z1 z2 z3 zt0 zt1 zt2 zt3
    generalize ((((w7.setCell ⟨w.heap.size, 0, none⟩ (.int .i64 rd)).setCell ⟨w.heap.size, 1, none⟩ (.slice (some ⟨g, 0, none⟩) l.length c)).setCell ⟨w.heap.size, 2, none⟩ (.int .i64 fi)).setCell ⟨w.heap.size, 3, none⟩ (.int .i64 li)) = W7 at *
    obtain ⟨B5, F5, O5⟩ := FIN.out
    have s0 := F5 0
    have s1 := F5 1
    have s2 := F5 2
    have s3 := F5 3
    refine bodyPost_ret (v := .tuple #[.agg #[.int .i64 rd, .slice (some ⟨g, 0, none⟩) l.length c, .int .i64 fi, .int .i64 li], .int .i64 y7]) ?hr rfl ?_
    case hr => rw [results_cell_tmp rfl]; go_simp
    exact ⟨rd, fi, li, _, l, y7, rfl, B5, O5, by simp, HBD.out, HY7.out⟩

set_option maxRecDepth 100000 in
set_option maxHeartbeats 8000000 in
theorem drawRg_any (a : Option Addr) (len cap : Nat) (zs : List Int) (w : World) (h : IsRow .u8 w a len cap zs) :
    Calls Try.prog 33 #[.slice a len cap] w (GotRi w) := by
  have B0 : Below w.heap.size w (w.alloc (.cells #[.int .i64 0, .slice none 0 0, .int .i64 0, .int .i64 0] 30)) := (Below.refl _ _).alloc (Nat.le_refl _) _
  have H := Lib.hid (IsRow.keep h (w' := w.alloc (.cells #[.int .i64 0, .slice none 0 0, .int .i64 0, .int .i64 0] 30)) (fun x _ _ i v hv => (B0.cell (World.block_lt_of_cell? w _ hv)).trans hv))
  have Z0 := Lib.hid (Frm.new w 30 [.int .i64 0, .slice none 0 0, .int .i64 0, .int .i64 0])
  have Y0 := Lib.hid (Thaw.new w 30 [.int .i64 0, .slice none 0 0, .int .i64 0, .int .i64 0])
  have BB0 := Lib.hid B0
  have hs0 : (w.alloc (.cells #[.int .i64 0, .slice none 0 0, .int .i64 0, .int .i64 0] 30)).heap.size = w.heap.size + 1 := by simp
  have HS0 := Lib.hid hs0
  clear h B0 hs0
  go_enter Try.func33, Try.ntmps33
  go_wp2_with fail
  refine (open_any a len cap zs _ H.out).mono ?_
  rintro e w1 ⟨rfl, hb1, hR1⟩
  have hs1 := hb1.size
  rw [HS0.out] at hb1 hR1
  have Z1 := Lib.hid (Frm.below Z0.out hb1 (Nat.lt_succ_self _))
  have Y1 := Lib.hid (Thaw.below Y0.out hb1 (Nat.lt_succ_self _))
  have BB1 := Lib.hid (BB0.out.trans (hb1.mono (Nat.le_succ _)))
  have HR1 := Lib.hid hR1
  clear hb1 hR1 Z0 Y0 BB0 H hs1
  have hs0 : (w.alloc (.cells #[.int .i64 0, .slice none 0 0, .int .i64 0, .int .i64 0] 30)).heap.size = w.heap.size + 1 := HS0.out
  go_wp2_with fail
  refine (recv_any (w.heap.size + 1) 0 w1 HR1.out (by omega)).mono ?_
  rintro e w2 ⟨rd, fi, li, v, l, rfl, hg2, hR2, ho2, hv2, hbd⟩
  obtain ⟨g, c, rfl, hc, hgB, hgh⟩ := ho2.sl hv2
  have HBD := Lib.hid hbd
  have hb1s : w.heap.size + 1 < w1.heap.size := HR1.out.1
  have A2 : Below w2.heap.size w2 (w2.alloc (.cells #[.int .i64 rd, .slice (some ⟨g, 0, none⟩) l.length c, .int .i64 fi, .int .i64 li] 30)) := (Below.refl _ _).alloc (Nat.le_refl _) _
  have hz2 := hg2.size
  have K2 : Hid (Kx w (w2.alloc (.cells #[.int .i64 rd, .slice (some ⟨g, 0, none⟩) l.length c, .int .i64 fi, .int .i64 li] 30)) w.heap.size (w.heap.size + 1) 100 w2.heap.size g c rd fi li l) := Lib.hid {
    bel := (BB1.out.grown hg2 BB1.out.size (fun r e => by injection e with e; omega)).alloc (by have := BB1.out.size; omega) _
    rdr := (hR2.le (by omega)).below A2
    frm := Frm.new w2 30 [.int .i64 rd, .slice (some ⟨g, 0, none⟩) l.length c, .int .i64 fi, .int .i64 li]
    zfrm := (Z1.out.kept hg2 (by omega) (fun e => by injection e with e; omega)).below A2 (by omega)
    zthaw := (Y1.out.kept hg2 (by omega) (fun e => by injection e with e; omega)).below A2 (by omega)
    own := (OwnPc.lower ho2 (by omega)).below A2
    o1 := Nat.le_refl _
    o2 := Nat.lt_succ_self _
    o3 := by omega
    hi := by simp }
  clear hg2 hR2 ho2 hv2 hbd A2 Z1 Y1 BB1 HR1 hc hgB hgh
  go_upto_region 2 with fail
  generalize hW : (w2.alloc (.cells #[.int .i64 rd, .slice (some ⟨g, 0, none⟩) l.length c, .int .i64 fi, .int .i64 li] 30)) = W2 at *
  generalize hbx : w2.heap.size = bx at *
  clear hW hbx hz2 hb1s
  have KD := Lib.hid K2.out.drew
  have q0 := K2.out.frm 0
  have q1 := K2.out.frm 1
  have q2 := K2.out.frm 2
  have q3 := K2.out.frm 3
  go_region_with ((go_at_call 53; (with_reducible refine (limit_any _ _ _ (by first | exact KD.out.rdr | exact K2.out.rdr) (by omega)).mono ?_); rintro e w7 ⟨y7, hy7, rfl, hg7, hR7⟩; have HY7 := Lib.hid hy7; have K7 := Lib.hid (KD.out.pick hg7 hR7); have p0 := K7.out.frm 0; have p1 := K7.out.frm 1; have p2 := K7.out.frm 2; have p3 := K7.out.frm 3; have z0 := K7.out.zfrm 0; have z1 := K7.out.zfrm 1; have z2 := K7.out.zfrm 2; have z3 := K7.out.zfrm 3; have zt0 := K7.out.zthaw 0; have zt1 := K7.out.zthaw 1; have zt2 := K7.out.zthaw 2; have zt3 := K7.out.zthaw 3; have FIN := Lib.hid K7.out.fin))
  all_goals
    go_wp2_with fail
    clear q0 q1 q2 q3 p0 p1 p2 p3 z0 z1 z2 z3 zt0 zt1 zt2 zt3
    generalize ((((w7.setCell ⟨w.heap.size, 0, none⟩ (.int .i64 rd)).setCell ⟨w.heap.size, 1, none⟩ (.slice (some ⟨g, 0, none⟩) l.length c)).setCell ⟨w.heap.size, 2, none⟩ (.int .i64 fi)).setCell ⟨w.heap.size, 3, none⟩ (.int .i64 li)) = W7 at *
    obtain ⟨B5, F5, O5⟩ := FIN.out
    have s0 := F5 0
    have s1 := F5 1
    have s2 := F5 2
    have s3 := F5 3
    refine bodyPost_ret (v := .tuple #[.agg #[.int .i64 rd, .slice (some ⟨g, 0, none⟩) l.length c, .int .i64 fi, .int .i64 li], .int .i64 y7]) ?hr rfl ?_
    case hr => rw [results_cell_tmp rfl]; go_simp
    exact ⟨rd, fi, li, _, l, y7, rfl, B5, O5, by simp, HBD.out, HY7.out⟩

end Go.Proofs.Ytdhdomnhgcejhaa
