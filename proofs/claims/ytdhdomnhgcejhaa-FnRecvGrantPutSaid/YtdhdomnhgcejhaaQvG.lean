/- Chapter 31's draws: l92Recv. -/
import Derived.Test.YtdhdomnhgcejhaaQvJ
import Derived.Deep.RegionHeld3
import Derived.Deep.DeepCutAuto
namespace Go.Proofs.Ytdhdomnhgcejhaa
open Go.RowKit
set_option linter.unusedVariables false
set_option linter.unusedSimpArgs false

def RvBd (rd li : Int) (l : List Pc) : Prop := -2 ≤ rd ∧ rd ≤ 32 ∧ -1 ≤ li ∧ li ≤ 31 ∧ l.length ≤ 31 ∧ ∀ p ∈ l, -1 ≤ p.1 ∧ p.1 ≤ 32 ∧ p.2.size ≤ 30
def GotRv (w : World) (b k : Nat) (e : Ending) (w' : World) : Prop := ∃ (rd fi li : Int) (v : Value) (l : List Pc), e = .returned (.agg #[.int .i64 rd, v, .int .i64 fi, .int .i64 li]) ∧ w.grownBy w' (some b) ∧ Rdr w' b (k + 100) ∧ OwnPc w' w.heap.size v l ∧ v ≠ .slice none 0 0 ∧ RvBd rd li l
theorem RvOf.bd {rd fi li : Int} {l : List Pc} (h : RvOf rd fi li l) : RvBd rd li l := by
  obtain ⟨h1, h2, h3, h4, h5, h6⟩ := h
  exact ⟨by omega, by omega, by omega, by omega, by omega, fun p hp => by have := rvok_pc h5 p hp; omega⟩

theorem min_en {at' y : Nat} {li : Int} (h : (at' : Int) ≤ li) : ∃ en : Nat, (if li < (at' : Int) + (y : Int) then li else (at' : Int) + (y : Int)) = (en : Int) ∧ (at' ≤ en ∧ (en : Int) ≤ li) := by
  split
  · exact ⟨li.toNat, by omega, by omega, by omega⟩
  · exact ⟨at' + y, by omega, by omega, by omega⟩

set_option maxRecDepth 100000 in
set_option maxHeartbeats 8000000 in
theorem recv_any (b k : Nat) (w : World) (R : Rdr w b k) (hk : k ≤ 800000) :
    Calls Try.prog 48 #[.pointer (some ⟨b, 0, none⟩)] w (GotRv w b k) := by
  have HBL := Lib.hid R.1
  have B0 : Below w.heap.size w (w.alloc (.cells #[.int .i64 0, .slice none 0 0, .int .i64 0, .int .i64 0] 30)) := (Below.refl _ _).alloc (Nat.le_refl _) _
  have R0 := Lib.hid (R.below B0)
  have Z0 := Lib.hid (Frm.new w 30 [.int .i64 0, .slice none 0 0, .int .i64 0, .int .i64 0])
  have Y0 := Lib.hid (Thaw.new w 30 [.int .i64 0, .slice none 0 0, .int .i64 0, .int .i64 0])
  have BB0 := Lib.hid B0
  clear R B0
  go_enter Try.func48, Try.ntmps48
  go_wp2_with fail
  refine (pick_rdr b _ _ _ R0.out (by omega) (by omega) (by omega)).mono ?_
  rintro e w1 ⟨n, hn, rfl, hg1, hR1⟩
  have hz1 : w.heap.size < w1.heap.size := Nat.lt_of_lt_of_le (by simp) hg1.size
  have Z1 : Hid (Frm w1 w.heap.size [.int .i64 0, .slice none 0 0, .int .i64 0, .int .i64 0]) := Lib.hid (Frm.kept Z0.out hg1 (by simp) (fun e => by injection e with e; have := HBL.out; omega))
  have Y1 : Hid (Thaw w1 w.heap.size) := Lib.hid (Thaw.kept Y0.out hg1 (by simp) (fun e => by injection e with e; have := HBL.out; omega))
  have G1 : Hid (w.grownBy w1 (some b)) := Lib.hid (grown_two (World.grownBy_alloc w _ (some b)) hg1 (fun r e => .inr (by injection e with e; exact e.symm)))
  have HR1 := Lib.hid hR1
  clear hg1 hR1 R0 Z0 Y0 BB0
  go_wp2_with fail
  refine (snew_any (n : Int) _ (by omega) (by omega)).mono ?_
  rintro e w2 ⟨v, rfl, hb2, ho2, hv2⟩
  obtain ⟨g, c, rfl, _, hg1, hg2⟩ := ho2.sl hv2
  have hz2 := hb2.size
  have A2 : Below w2.heap.size w2 (w2.alloc (.cells #[.int .i64 0, .slice (some ⟨g, 0, none⟩) 0 c, .int .i64 (-1), .int .i64 (n : Int)] 30)) := (Below.refl _ _).alloc (Nat.le_refl _) _
  have S2 : Hid (St w (w2.alloc (.cells #[.int .i64 0, .slice (some ⟨g, 0, none⟩) 0 c, .int .i64 (-1), .int .i64 (n : Int)] 30)) b (k + 1) w2.heap.size g c 0 (-1) (n : Int) []) := Lib.hid {
    grown := grown_two (grown_two G1.out (row := none) ⟨hb2.os, hb2.tape, hb2.output, hb2.size, fun i hi _ => hb2.block i hi⟩ (fun r e => by cases e)) (World.grownBy_alloc w2 _ none) (fun r e => by cases e)
    rdr := (HR1.out.below hb2).below A2
    frm := Frm.new w2 30 [.int .i64 0, .slice (some ⟨g, 0, none⟩) 0 c, .int .i64 (-1), .int .i64 (n : Int)]
    thaw := Thaw.new w2 30 [.int .i64 0, .slice (some ⟨g, 0, none⟩) 0 c, .int .i64 (-1), .int .i64 (n : Int)]
    own := (OwnPc.lower ho2 (by omega)).below A2
    zfrm := (Z1.out.below hb2 hz1).below A2 (by omega)
    zthaw := (Y1.out.below hb2 hz1).below A2 (by omega)
    lo := by omega
    hi := by simp
    ne := by omega
    blt := HBL.out }
  have HBX : Hid (w.heap.size < w2.heap.size) := Lib.hid (by omega)
  clear hb2 ho2 hv2 hg1 hg2 A2 G1 HR1 Z1 Y1
  go_upto_region 2 with fail
  generalize hW : (w2.alloc (.cells #[.int .i64 0, .slice (some ⟨g, 0, none⟩) 0 c, .int .i64 (-1), .int .i64 (n : Int)] 30)) = W2 at *
  generalize hbx : w2.heap.size = bx at *
  clear hW hbx
  go_wp2_with fail
  refine (pick_rdr b _ _ _ S2.out.rdr (by omega) (by omega) (by omega)).mono ?_
  rintro e w3 ⟨y, hy, rfl, hg3, hR3⟩
  have S3 := Lib.hid (S2.out.pick hg3 hR3)
  clear hg3 hR3 S2
  go_upto_if 20 with fail
  go_cut [] (fun wx => ∃ li : Int, (0 ≤ li ∧ li ≤ 30) ∧ Hid (St w wx b (k + 2) bx g c 0 (-1) li []))
  case first =>
    have t3 := S3.out.thaw 3
    have q3 := S3.out.frm 3
    by_cases hy0 : y = 0
    · subst hy0
      go_wp2_with fail
      go_meet
      exact ⟨30, by omega, Lib.hid (S3.out.set3 30)⟩
    · have hb : ((y : Int) == 0) = false := by rw [beq_eq_false_iff_ne]; omega
      go_wp2_with fail
      go_meet
      exact ⟨(n : Int), by omega, S3⟩
  case rest =>
    clear S3 hy
    obtain ⟨li0, hli0, S4⟩ := hcut
    go_wp2_with fail
    go_loopw [5] (fun iv wr => ∃ (i g c : Nat) (rd fi li : Int) (l : List Pc), i ≤ 8 ∧ iv = .int .i64 (i : Int) ∧ Hid (St w wr b (k + 2 + 8 * i) bx g c rd fi li l) ∧ Hid (RvOf rd fi li l)) (fun iv _ => 8 - (intOf iv).toNat)
    case atStart => exact ⟨0, g, c, 0, -1, li0, [], by omega, rfl, S4, Lib.hid ⟨by omega, by omega, by omega, by omega, ⟨⟨by omega, by omega⟩, ⟨by omega, by omega⟩, trivial, by unfold pend; omega, .inl rfl⟩, by simp⟩⟩
    case round =>
      clear S4
      obtain ⟨i, g, c, rd, fi, li, l, hi, rfl, SI, HO⟩ := hrel
      obtain ⟨r0, r1, l0, l1, _, hl⟩ := HO.out
      have hz : w.heap.size < bx := HBX.out
      go_wp2_with fail
      refine (pick_rdr b _ _ _ SI.out.rdr (by omega) (by omega) (by omega)).mono ?_
      rintro e w4 ⟨y, hy, rfl, hg4, hR4⟩
      have S4 := Lib.hid (SI.out.pick hg4 hR4)
      clear hg4 hR4 SI
      by_cases hiy : i < y
      · have hiy' : (i : Int) < (y : Int) := by omega
        have q3 := S4.out.frm 3
        have hwl : IntKind.i64.wrap (li + 1) = li + 1 := IntWalk.i64_in _ (by omega)
        go_wp2_with fail
        refine (pick_rdr b _ _ _ S4.out.rdr (by omega) (by omega) (by omega)).mono ?_
        rintro e w5 ⟨at', hat, rfl, hg5, hR5⟩
        have S5 := Lib.hid (S4.out.pick hg5 hR5)
        clear hg5 hR5 S4 q3 hwl
        have q3 := S5.out.frm 3
        go_upto_region 8 with fail
        go_cut [7] (fun ev wx => ∃ en : Nat, (at' ≤ en ∧ (en : Int) ≤ li) ∧ ev = .int .i64 (en : Int) ∧ Hid (St w wx b (k + 2 + 8 * i + 3) bx g c rd fi li l))
        case first =>
          have SD := Lib.hid S5.out.drew
          go_region_with ((go_at_call 49; refine (pick_rdr b _ _ _ (by first | exact SD.out.rdr | exact S5.out.rdr) (by omega) (by omega) (by omega)).mono ?_; rintro e w6 ⟨y9, hy9, rfl, hg6, hR6⟩; have S6 := Lib.hid (SD.out.pick hg6 hR6); have q3b := S6.out.frm 3; have hw6 : IntKind.i64.wrap ((at' : Int) + (y9 : Int)) = (at' : Int) + (y9 : Int) := (IntWalk.i64_in _ (by omega)); obtain ⟨en, hen, hen2⟩ := min_en (at' := at') (y := y9) (li := li) (by omega)))
          all_goals
            go_wp2_with fail
            go_meet
            exact ⟨en, hen2, rfl, S6⟩
        case rest =>
          clear S5 q3
          obtain ⟨en, ⟨hen1, hen2⟩, rfl, S6⟩ := hcut
          have hen3 : en ≤ 30 := by omega
          have f1 : (0 : Int) ≤ (at' : Int) := by omega
          have f2 : (at' : Int) ≤ (en : Int) := by omega
          have f3 : (en : Int) ≤ (foxS.size : Int) := by rw [foxS_size]; omega
          have hsz : (at' : Int) + ((foxS.extract at' en).size : Int) ≤ li := by rw [fox_part at' en hen1 hen3]; omega
          have S7 := Lib.hid (S6.out.le (k' := k + 2 + 8 * i + 4) (by omega))
          have hwb : bx < wc.heap.size := S6.out.hi
          have hgl := S6.out.own.lt
          go_upto_region 9 with fail
          go_cut [8] (fun zv wx => ∃ (q g' c' : Nat) (rd' fi' li' : Int) (l' : List Pc), zv = .pointer (some ⟨q, 0, none⟩) ∧ Hid (w.heap.size < q ∧ q ≠ bx ∧ g' ≠ bx) ∧ Hid (Frm wx q [.int .i64 rd', .slice (some ⟨g', 0, none⟩) l'.length c', .int .i64 fi', .int .i64 li']) ∧ Hid (OwnPc wx (w.heap.size + 1) (.slice (some ⟨g', 0, none⟩) l'.length c') l') ∧ Hid (RvOf rd' fi' li' l') ∧ Hid (St w wx b (k + 2 + 8 * i + 4) bx g c rd fi li l))
          case first =>
            have SDd := S6.out.drew
            have SDe := fun ob => (S6.out.alloc ob).drew
            have RDd := SDd.rdr
            have RDe := fun ob => (SDe ob).rdr
            have kS0 := S7.out.all
            have kSd := S7.out.drew.all
            have kSe := fun ob => (S7.out.alloc ob).drew.all
            have hvn : (Value.slice (some ⟨g, 0, none⟩) l.length c) ≠ .slice none 0 0 := by simp
            have hxb : w.heap.size < bx := S6.out.lo
            have q0 := S7.out.frm 0
            have q1 := S7.out.frm 1
            have q2 := S7.out.frm 2
            have q3 := S7.out.frm 3
            go_region_held3 (fun W => W.cell? ⟨bx, 0, none⟩ = some (.int .i64 rd) ∧ W.cell? ⟨bx, 1, none⟩ = some (.slice (some ⟨g, 0, none⟩) l.length c) ∧ W.cell? ⟨bx, 2, none⟩ = some (.int .i64 fi) ∧ W.cell? ⟨bx, 3, none⟩ = some (.int .i64 li) ∧ St w W b (k + 2 + 8 * i + 4) bx g c rd fi li l)
              ((with_reducible first | assumption | (exact kQ) | (exact kQn _) | (exact kQs _ _ _ _) | (exact kP) | (exact kPe _) | (exact kS0) | (exact kSd) | (exact kSe _)))
              ((first
                | (go_at_call 50; (with_reducible refine (sstream_any _).mono ?_); rintro e w6' ⟨rfl, rfl⟩)
                | (go_at_call 49; (with_reducible refine (pick_rdr b _ _ _ (RDe _) (by omega) (by omega) (by omega)).mono ?_); rintro e wp ⟨y8, hy8, rfl, hgp, hRp⟩; have SP := (SDe _).pick hgp hRp; have kP := SP.all; have kPe := fun ob => (SP.alloc ob).all; have OP := SP.own; have OPe := fun ob => (SP.alloc ob).own; have hbw : b < w.heap.size := S6.out.blt; have FY : Frm wp wc.heap.size [.int .i64 0, .slice none 0 0, .int .i64 0, .int .i64 0] := Frm.kept (show Frm (wc.alloc (.cells #[.int .i64 0, .slice none 0 0, .int .i64 0, .int .i64 0] 30)).drew wc.heap.size [.int .i64 0, .slice none 0 0, .int .i64 0, .int .i64 0] from Frm.new wc 30 [.int .i64 0, .slice none 0 0, .int .i64 0, .int .i64 0]) hgp (by simp) (fun e => by injection e with e; omega); have TY : Thaw wp wc.heap.size := Thaw.kept (show Thaw (wc.alloc (.cells #[.int .i64 0, .slice none 0 0, .int .i64 0, .int .i64 0] 30)).drew wc.heap.size from Thaw.new wc 30 [.int .i64 0, .slice none 0 0, .int .i64 0, .int .i64 0]) hgp (by simp) (fun e => by injection e with e; omega); have hwp : wc.heap.size < wp.heap.size := (Nat.lt_of_lt_of_le (by simp) hgp.size))
                | (go_at_call 49; (with_reducible refine (pick_rdr b _ _ _ RDd (by omega) (by omega) (by omega)).mono ?_); rintro e wp ⟨y8, hy8, rfl, hgp, hRp⟩; have SP := SDd.pick hgp hRp; have kP := SP.all; have kPe := fun ob => (SP.alloc ob).all; have OP := SP.own; have OPe := fun ob => (SP.alloc ob).own; have hwp : wc.heap.size ≤ wp.heap.size := hgp.size)
                | (go_at_call 52; (with_reducible refine (sput_any _ l rd fi li _ _ _ _ _ (OPe _) hvn HO.out f1 hsz).mono ?_); rintro e wq ⟨rd', fi', li', v', yv, l', rfl, ⟨x', rfl⟩, hbq, hoq, hvq, hok⟩; obtain ⟨g', c', rfl, hcq, hgq1, hgq2⟩ := hoq.sl hvq; have SQ := (SP.alloc _).below hbq; have kQ := SQ.all; have FZ := Frm.below (Frm.new wp 30 [.int .i64 0, .slice none 0 0, .int .i64 0, .int .i64 0]) hbq (by simp); have TZ := Thaw.below (Thaw.new wp 30 [.int .i64 0, .slice none 0 0, .int .i64 0, .int .i64 0]) hbq (by simp); have z0 := FZ 0; have z1 := FZ 1; have z2 := FZ 2; have z3 := FZ 3; have y0 := TZ 0; have y1 := TZ 1; have y2 := TZ 2; have y3 := TZ 3; have hqb : w.heap.size < wp.heap.size := (by omega); have OQ := OwnPc.lower hoq (B' := w.heap.size + 1) (by simp; omega); have hqx : wp.heap.size ≠ bx := (by omega); have hqg : wp.heap.size ≠ g := (by omega); have hqg2 : wp.heap.size ≠ g' := (by simp at hgq1; omega); have hgx : g' ≠ bx := (by simp at hgq1; omega); have kQs := fun x0 x1 x2 x3 => ((((SQ.far hqb hqx hqg 0 x0).far hqb hqx hqg 1 x1).far hqb hqx hqg 2 x2).far hqb hqx hqg 3 x3).all; have OUT := Lib.hid (st_out (rd' := rd') (fi' := fi') (li' := li') SQ hqb hqx hqg hqg2 FZ OQ))
                | (go_at_call 52; (with_reducible refine (sput_any _ l rd fi li _ _ _ _ _ OP hvn HO.out f1 hsz).mono ?_); rintro e wq ⟨rd', fi', li', v', yv, l', rfl, ⟨x', rfl⟩, hbq, hoq, hvq, hok⟩; obtain ⟨g', c', rfl, hcq, hgq1, hgq2⟩ := hoq.sl hvq; have SQ := SP.below hbq; have kQ := SQ.all; have FZ := Frm.below FY hbq hwp; have TZ := Thaw.below TY hbq hwp; have z0 := FZ 0; have z1 := FZ 1; have z2 := FZ 2; have z3 := FZ 3; have y0 := TZ 0; have y1 := TZ 1; have y2 := TZ 2; have y3 := TZ 3; have hqb : w.heap.size < wc.heap.size := (by omega); have OQ := OwnPc.lower hoq (B' := w.heap.size + 1) (by omega); have hqx : wc.heap.size ≠ bx := (by omega); have hqg : wc.heap.size ≠ g := (by omega); have hqg2 : wc.heap.size ≠ g' := (by omega); have hgx : g' ≠ bx := (by omega); have kQs := fun x0 x1 x2 x3 => ((((SQ.far hqb hqx hqg 0 x0).far hqb hqx hqg 1 x1).far hqb hqx hqg 2 x2).far hqb hqx hqg 3 x3).all; have OUT := Lib.hid (st_out (rd' := rd') (fi' := fi') (li' := li') SQ hqb hqx hqg hqg2 FZ OQ))
                | (go_at_call 52; (with_reducible refine (sput_any _ l rd fi li _ _ _ _ _ OP hvn HO.out f1 hsz).mono ?_); rintro e wq ⟨rd', fi', li', v', yv, l', rfl, ⟨x', rfl⟩, hbq, hoq, hvq, hok⟩; obtain ⟨g', c', rfl, hcq, hgq1, hgq2⟩ := hoq.sl hvq; have SQ := SP.below hbq; have kQ := SQ.all; have kQn := fun ob => (SQ.alloc ob).all; have hqb : w.heap.size < wq.heap.size := (by omega); have OQ := OwnPc.lower hoq (B' := w.heap.size + 1) (by omega); have hqx : wq.heap.size ≠ bx := (by have := hbq.size; omega); have hgx : g' ≠ bx := (by omega); have OUT := Lib.hid (st_new (rd' := rd') (fi' := fi') (li' := li') SQ OQ))))
            all_goals
              go_wp2_with fail
              go_meet
              exact ⟨_, g', c', rd', fi', li', l', rfl, Lib.hid ⟨hqb, hqx, hgx⟩, Lib.hid OUT.out.2.1, Lib.hid OUT.out.2.2, Lib.hid hok, Lib.hid OUT.out.1⟩
          case rest =>
            clear S6 S7 hen1 hen2 hen3 f1 f2 f3 hsz hwb hgl HO l0 l1 r0 r1 hl
            obtain ⟨q, g', c', rd', fi', li', l', rfl, HQ, FQ, OQ, HO', S8⟩ := hcut
            have o0 := FQ.out 0
            have o1 := FQ.out 1
            have o2 := FQ.out 2
            have o3 := FQ.out 3
            have q0 := S8.out.frm 0
            have q1 := S8.out.frm 1
            have q2 := S8.out.frm 2
            have q3 := S8.out.frm 3
            have t0 := S8.out.thaw 0
            have t1 := S8.out.thaw 1
            have t2 := S8.out.thaw 2
            have t3 := S8.out.thaw 3
            have S9 := Lib.hid (S8.out.put (rd' := rd') (fi' := fi') (li' := li') OQ.out HQ.out.2.2)
            clear S8 FQ OQ HQ
            go_upto_region 11 with fail
            generalize hW9 : ((((wc.setCell ⟨bx, 0, none⟩ (.int .i64 rd')).setCell ⟨bx, 1, none⟩ (.slice (some ⟨g', 0, none⟩) l'.length c')).setCell ⟨bx, 2, none⟩ (.int .i64 fi')).setCell ⟨bx, 3, none⟩ (.int .i64 li')) = W9 at *
            clear hW9 o0 o1 o2 o3 q0 q1 q2 q3 t0 t1 t2 t3
            rename_i gOld cOld rdOld fiOld liOld lOld
            clear hat
            generalize g' = g at *
            generalize c' = c at *
            generalize rd' = rd at *
            generalize fi' = fi at *
            generalize li' = li at *
            generalize l' = l at *
            obtain ⟨r0, r1, l0, l1, _, hl⟩ := HO'.out
            go_wp2_with fail
            refine (pick_rdr b _ _ _ S9.out.rdr (by omega) (by omega) (by omega)).mono ?_
            rintro e w10 ⟨y3, hy3, rfl, hg10, hR10⟩
            have S10 := Lib.hid (S9.out.pick hg10 hR10)
            clear hg10 hR10 S9
            by_cases hz3 : y3 = 0
            · subst hz3
              have S11 := Lib.hid (S10.out.le (k' := k + 2 + 8 * i + 6) (by omega))
              have hwb : bx < w10.heap.size := S11.out.hi
              have hgl := S11.out.own.lt
              go_upto_region 12 with fail
              go_cut [10] (fun zv wx => ∃ (q g' c' : Nat) (rd' fi' li' : Int) (l' : List Pc), zv = .pointer (some ⟨q, 0, none⟩) ∧ Hid (w.heap.size < q ∧ q ≠ bx ∧ g' ≠ bx) ∧ Hid (Frm wx q [.int .i64 rd', .slice (some ⟨g', 0, none⟩) l'.length c', .int .i64 fi', .int .i64 li']) ∧ Hid (OwnPc wx (w.heap.size + 1) (.slice (some ⟨g', 0, none⟩) l'.length c') l') ∧ Hid (RvOf rd' fi' li' l') ∧ Hid (St w wx b (k + 2 + 8 * i + 6) bx g c rd fi li l))
              case first =>
                have SDd := S10.out.drew
                have SDe := fun ob => (S10.out.alloc ob).drew
                have RDd := SDd.rdr
                have RDe := fun ob => (SDe ob).rdr
                have kS0 := S11.out.all
                have kSd := S11.out.drew.all
                have kSe := fun ob => (S11.out.alloc ob).drew.all
                have hvn : (Value.slice (some ⟨g, 0, none⟩) l.length c) ≠ .slice none 0 0 := by simp
                have hxb : w.heap.size < bx := S11.out.lo
                have q0 := S11.out.frm 0
                have q1 := S11.out.frm 1
                have q2 := S11.out.frm 2
                have q3 := S11.out.frm 3
                go_region_held3 (fun W => W.cell? ⟨bx, 0, none⟩ = some (.int .i64 rd) ∧ W.cell? ⟨bx, 1, none⟩ = some (.slice (some ⟨g, 0, none⟩) l.length c) ∧ W.cell? ⟨bx, 2, none⟩ = some (.int .i64 fi) ∧ W.cell? ⟨bx, 3, none⟩ = some (.int .i64 li) ∧ St w W b (k + 2 + 8 * i + 6) bx g c rd fi li l)
                  ((with_reducible first | assumption | (exact kQ) | (exact kQn _) | (exact kQs _ _ _ _) | (exact kP) | (exact kPe _) | (exact kS0) | (exact kSd) | (exact kSe _)))
                  ((first
                    | (go_at_call 49; (with_reducible refine (pick_rdr b _ _ _ (RDe _) (by omega) (by omega) (by omega)).mono ?_); rintro e wp ⟨y8, hy8, rfl, hgp, hRp⟩; have SP := ((SDe _).pick hgp hRp).le (k' := k + 2 + 8 * i + 6) (by omega); have kP := SP.all; have kPe := fun ob => (SP.alloc ob).all; have OP := Pcs.of_own SP.own hvn; have OPe := fun ob => Pcs.of_own (SP.alloc ob).own hvn; have hy0 : (0 : Int) ≤ (y8 : Int) := (by omega); have hy1 : (y8 : Int) ≤ 1000 := (by omega); have hbw : b < w.heap.size := S11.out.blt; have FY : Frm wp w10.heap.size [.int .i64 0, .slice none 0 0, .int .i64 0, .int .i64 0] := Frm.kept (show Frm (w10.alloc (.cells #[.int .i64 0, .slice none 0 0, .int .i64 0, .int .i64 0] 30)).drew w10.heap.size [.int .i64 0, .slice none 0 0, .int .i64 0, .int .i64 0] from Frm.new w10 30 [.int .i64 0, .slice none 0 0, .int .i64 0, .int .i64 0]) hgp (by simp) (fun e => by injection e with e; omega); have TY : Thaw wp w10.heap.size := Thaw.kept (show Thaw (w10.alloc (.cells #[.int .i64 0, .slice none 0 0, .int .i64 0, .int .i64 0] 30)).drew w10.heap.size from Thaw.new w10 30 [.int .i64 0, .slice none 0 0, .int .i64 0, .int .i64 0]) hgp (by simp) (fun e => by injection e with e; omega); have hwp : w10.heap.size < wp.heap.size := (Nat.lt_of_lt_of_le (by simp) hgp.size))
                    | (go_at_call 49; (with_reducible refine (pick_rdr b _ _ _ RDd (by omega) (by omega) (by omega)).mono ?_); rintro e wp ⟨y8, hy8, rfl, hgp, hRp⟩; have SP := (SDd.pick hgp hRp).le (k' := k + 2 + 8 * i + 6) (by omega); have kP := SP.all; have kPe := fun ob => (SP.alloc ob).all; have OP := Pcs.of_own SP.own hvn; have OPe := fun ob => Pcs.of_own (SP.alloc ob).own hvn; have hy0 : (0 : Int) ≤ (y8 : Int) := (by omega); have hy1 : (y8 : Int) ≤ 1000 := (by omega); have hwp : w10.heap.size ≤ wp.heap.size := hgp.size)
                    | (go_at_call 54; (with_reducible refine (sread_any _ l rd fi li _ _ (OPe _) HO'.out hy0 hy1).mono ?_); rintro e wq ⟨rd', fi', li', v', yv, l', rfl, ⟨x', rfl⟩, hbq, hoq, hvq, hok⟩; obtain ⟨g', c', rfl, hcq, hgq1, hgq2⟩ := hoq.sl hvq; have SQ := (SP.alloc _).below hbq; have kQ := SQ.all; have FZ := Frm.below (Frm.new wp 30 [.int .i64 0, .slice none 0 0, .int .i64 0, .int .i64 0]) hbq (by simp); have TZ := Thaw.below (Thaw.new wp 30 [.int .i64 0, .slice none 0 0, .int .i64 0, .int .i64 0]) hbq (by simp); have z0 := FZ 0; have z1 := FZ 1; have z2 := FZ 2; have z3 := FZ 3; have y0 := TZ 0; have y1 := TZ 1; have y2 := TZ 2; have y3 := TZ 3; have hqb : w.heap.size < wp.heap.size := (by omega); have OQ := OwnPc.lower hoq (B' := w.heap.size + 1) (by simp; omega); have hqx : wp.heap.size ≠ bx := (by omega); have hqg : wp.heap.size ≠ g := (by omega); have hqg2 : wp.heap.size ≠ g' := (by simp at hgq1; omega); have hgx : g' ≠ bx := (by simp at hgq1; omega); have kQs := fun x0 x1 x2 x3 => ((((SQ.far hqb hqx hqg 0 x0).far hqb hqx hqg 1 x1).far hqb hqx hqg 2 x2).far hqb hqx hqg 3 x3).all; have OUT := Lib.hid (st_out (rd' := rd') (fi' := fi') (li' := li') SQ hqb hqx hqg hqg2 FZ OQ))
                    | (go_at_call 54; (with_reducible refine (sread_any _ l rd fi li _ _ OP HO'.out hy0 hy1).mono ?_); rintro e wq ⟨rd', fi', li', v', yv, l', rfl, ⟨x', rfl⟩, hbq, hoq, hvq, hok⟩; obtain ⟨g', c', rfl, hcq, hgq1, hgq2⟩ := hoq.sl hvq; have SQ := SP.below hbq; have kQ := SQ.all; have FZ := Frm.below FY hbq hwp; have TZ := Thaw.below TY hbq hwp; have z0 := FZ 0; have z1 := FZ 1; have z2 := FZ 2; have z3 := FZ 3; have y0 := TZ 0; have y1 := TZ 1; have y2 := TZ 2; have y3 := TZ 3; have hqb : w.heap.size < w10.heap.size := (by omega); have OQ := OwnPc.lower hoq (B' := w.heap.size + 1) (by omega); have hqx : w10.heap.size ≠ bx := (by omega); have hqg : w10.heap.size ≠ g := (by omega); have hqg2 : w10.heap.size ≠ g' := (by omega); have hgx : g' ≠ bx := (by omega); have kQs := fun x0 x1 x2 x3 => ((((SQ.far hqb hqx hqg 0 x0).far hqb hqx hqg 1 x1).far hqb hqx hqg 2 x2).far hqb hqx hqg 3 x3).all; have OUT := Lib.hid (st_out (rd' := rd') (fi' := fi') (li' := li') SQ hqb hqx hqg hqg2 FZ OQ))
                    | (go_at_call 54; (with_reducible refine (sread_any _ l rd fi li _ _ OP HO'.out hy0 hy1).mono ?_); rintro e wq ⟨rd', fi', li', v', yv, l', rfl, ⟨x', rfl⟩, hbq, hoq, hvq, hok⟩; obtain ⟨g', c', rfl, hcq, hgq1, hgq2⟩ := hoq.sl hvq; have SQ := SP.below hbq; have kQ := SQ.all; have kQn := fun ob => (SQ.alloc ob).all; have hqb : w.heap.size < wq.heap.size := (by omega); have OQ := OwnPc.lower hoq (B' := w.heap.size + 1) (by omega); have hqx : wq.heap.size ≠ bx := (by have := hbq.size; omega); have hgx : g' ≠ bx := (by omega); have OUT := Lib.hid (st_new (rd' := rd') (fi' := fi') (li' := li') SQ OQ))))
                all_goals
                  go_wp2_with fail
                  go_meet
                  exact ⟨_, g', c', rd', fi', li', l', rfl, Lib.hid ⟨hqb, hqx, hgx⟩, Lib.hid OUT.out.2.1, Lib.hid OUT.out.2.2, Lib.hid hok, Lib.hid OUT.out.1⟩
              case rest =>
                clear S10 S11 hwb hgl HO' l0 l1 r0 r1 hl
                obtain ⟨q, g', c', rd', fi', li', l', rfl, HQ, FQ, OQ, HO', S8⟩ := hcut
                have o0 := FQ.out 0
                have o1 := FQ.out 1
                have o2 := FQ.out 2
                have o3 := FQ.out 3
                have q0 := S8.out.frm 0
                have q1 := S8.out.frm 1
                have q2 := S8.out.frm 2
                have q3 := S8.out.frm 3
                have t0 := S8.out.thaw 0
                have t1 := S8.out.thaw 1
                have t2 := S8.out.thaw 2
                have t3 := S8.out.thaw 3
                have S9 := Lib.hid (S8.out.put (rd' := rd') (fi' := fi') (li' := li') OQ.out HQ.out.2.2)
                clear S8 FQ OQ HQ
                go_wp2_with fail
                generalize hW9 : ((((wc.setCell ⟨bx, 0, none⟩ (.int .i64 rd')).setCell ⟨bx, 1, none⟩ (.slice (some ⟨g', 0, none⟩) l'.length c')).setCell ⟨bx, 2, none⟩ (.int .i64 fi')).setCell ⟨bx, 3, none⟩ (.int .i64 li')) = W9 at *
                clear hW9 o0 o1 o2 o3 q0 q1 q2 q3 t0 t1 t2 t3
                go_roundw
                case rel => exact ⟨i + 1, g', c', rd', fi', li', l', by omega, by go_num, Lib.hid (S9.out.le (by omega)), HO'⟩
                case measure => simp [intOf]; omega
            · have hb : ((y3 : Int) == 0) = false := by rw [beq_eq_false_iff_ne]; omega
              go_wp2_with fail
              go_roundw
              case rel => exact ⟨i + 1, g, c, rd, fi, li, l, by omega, by go_num, Lib.hid (S10.out.le (by omega)), HO'⟩
              case measure => simp [intOf]; omega
      · have hiy' : ¬ (i : Int) < (y : Int) := by omega
        have HBD := Lib.hid HO.out.bd
        have hi8 : i ≤ 8 := hi
        go_wp2_with fail
        refine (pick_rdr b _ _ _ S4.out.rdr (by omega) (by omega) (by omega)).mono ?_
        rintro e w5 ⟨sw, hsw, rfl, hg5, hR5⟩
        have S5 := Lib.hid (S4.out.pick hg5 hR5)
        clear hg5 hR5 S4
        go_upto_block 2 with fail
        go_cut [] (fun wx => ∃ (g c : Nat) (rd fi li : Int) (l : List Pc), Hid (St w wx b (k + 90) bx g c rd fi li l) ∧ Hid (RvBd rd li l))
        case first =>
          have hsw5 : sw = 0 ∨ sw = 1 ∨ sw = 2 ∨ sw = 3 ∨ sw = 4 ∨ 5 ≤ sw := by omega
          rcases hsw5 with rfl | rfl | rfl | rfl | rfl | hsw5
          · have q0 := S5.out.frm 0
            have SD := Lib.hid S5.out.drew
            go_upto_region 16 with fail
            go_region_with ((go_at_call 49; (with_reducible refine (pick_rdr b _ _ _ SD.out.rdr (by omega) (by omega) (by omega)).mono ?_); rintro e w6 ⟨y5, hy5, rfl, hg6, hR6⟩; have S6 := Lib.hid (SD.out.pick hg6 hR6); have q0b := S6.out.frm 0; have t0b := S6.out.thaw 0; have hw6 : IntKind.i64.wrap (rd + (y5 : Int)) = rd + (y5 : Int) := (IntWalk.i64_in _ (by omega)); have hw7 : IntKind.i64.wrap (rd + (y5 : Int) - 2) = rd + (y5 : Int) - 2 := (IntWalk.i64_in _ (by omega))))
            all_goals
              have S7 := Lib.hid (S6.out.set0 (rd + (y5 : Int) - 2))
              have hrd' : -2 ≤ rd + (y5 : Int) - 2 ∧ rd + (y5 : Int) - 2 ≤ 32 := by omega
              have HRD := Lib.hid hrd'
              clear hrd'
              go_wp2_with fail
              go_meet
              exact ⟨_, _, _, _, _, _, Lib.hid (S7.out.le (by omega)), Lib.hid ⟨HRD.out.1, HRD.out.2, HBD.out.2.2.1, HBD.out.2.2.2.1, HBD.out.2.2.2.2⟩⟩
          · go_wp2_with fail
            refine (limit_any b _ _ S5.out.rdr (by omega)).mono ?_
            rintro e w6 ⟨x, hx, rfl, hg6, hR6⟩
            have S6 := Lib.hid (S5.out.pick hg6 hR6)
            have S7 := Lib.hid (S6.out.set3 x)
            have HX := Lib.hid hx
            have q3 := S6.out.frm 3
            have t3 := S6.out.thaw 3
            clear hg6 hR6 S5
            go_wp2_with fail
            go_meet
            exact ⟨_, _, _, _, _, _, Lib.hid (S7.out.le (by omega)), Lib.hid ⟨HBD.out.1, HBD.out.2.1, HX.out.1, HX.out.2, HBD.out.2.2.2.2⟩⟩
          · go_wp2_with fail
            refine (pick_rdr b _ _ _ S5.out.rdr (by omega) (by omega) (by omega)).mono ?_
            rintro e w6 ⟨y2, hy2, rfl, hg6, hR6⟩
            have S6 := Lib.hid (S5.out.pick hg6 hR6)
            have S7 := Lib.hid (S6.out.set2 ((y2 : Int) - 2))
            have q2 := S6.out.frm 2
            have t2 := S6.out.thaw 2
            have hw7 : IntKind.i64.wrap ((y2 : Int) - 2) = (y2 : Int) - 2 := IntWalk.i64_in _ (by omega)
            clear hg6 hR6 S5
            go_wp2_with fail
            go_meet
            exact ⟨_, _, _, _, _, _, Lib.hid (S7.out.le (by omega)), Lib.hid HBD.out⟩
          · have SD := Lib.hid S5.out.drew
            have q1 := S5.out.frm 1
            have hl30 : l.length ≤ 30 := hl
            have hlt5 := S5.out.own.lt
            have hbx5 := S5.out.hi
            go_upto_region 22 with fail
            go_region_law ((first
              | (go_simp; go_at_call 49; (with_reducible refine (pick_rdr b _ _ _ SD.out.rdr (by omega) (by omega) (by omega)).mono ?_); rintro e w6 ⟨p, hp, rfl, hg6, hR6⟩; have S6 := Lib.hid (SD.out.pick hg6 hR6); have q1b := S6.out.frm 1; go_wp2_with fail)
              | (go_simp; go_at_call 38; (with_reducible refine (data_any b _ _ S6.out.rdr (by omega)).mono ?_); rintro e w7 ⟨d, hd, rfl, hg7, hR7⟩; have S7 := Lib.hid (S6.out.pick hg7 hR7); have q1c := S7.out.frm 1; have q1e := (S7.out.alloc (.cells #[.int .i64 (p : Int), .string d] 67)).frm 1; go_wp2_with fail)
              | (refine step_append_pc _ (by rfl) _ _ (by rfl) (w.heap.size + 1) g c l (by rfl) (S7.out.alloc _).own (p : Int) d w7.heap.size 1 (by rfl) (by constructor <;> (unfold World.cell?; rw [(MapKept.heap_alloc w7 _).1]; rfl)) (by omega) (by have := S7.out.hi; have := S7.out.lo; simp; omega) ?_; intro g' c' nn w8 hnn hO8 hg8 hgg8; have S7a := S7.out.alloc (.cells #[.int .i64 (p : Int), .string d] 67); have hgx8 : g' ≠ bx := (hgg8.elim (fun h9 => by have := S7.out.ne; omega) (fun h9 => by have := S7.out.hi; simp at h9; omega)); have hgne : some bx ≠ some g := (fun e => by injection e with e; have := S7.out.ne; omega); have q1d := (S7a.frm.kept hg8 S7a.hi hgne) 1; have t1d := (S7a.thaw.kept hg8 S7a.hi hgne) 1; have S9 : Hid (St w (w8.setCell ⟨bx, 1, none⟩ (.slice (some ⟨g', 0, none⟩) nn c')) b _ bx g' c' rd fi li (l ++ [((p : Int), d)])) := Lib.hid (by rw [hnn.out]; exact st_append S7a hg8 hO8 hgx8))))
            all_goals
              have HB9 : Hid (RvBd rd li (l ++ [((p : Int), d)])) := Lib.hid ⟨HBD.out.1, HBD.out.2.1, HBD.out.2.2.1, HBD.out.2.2.2.1, by simp; omega, fun q hq => by
                rcases List.mem_append.1 hq with hq | hq
                · exact HBD.out.2.2.2.2.2 q hq
                · rw [List.mem_singleton.1 hq]; exact ⟨by show (-1 : Int) ≤ (p : Int); omega, by show (p : Int) ≤ 32; omega, by show d.size ≤ 30; omega⟩⟩
              clear S7a hO8 hg8 hgg8 hgx8 hnn
              go_wp2_with fail
              go_meet
              exact ⟨g', c', rd, fi, li, (l ++ [((p : Int), d)]), Lib.hid (S9.out.le (by omega)), Lib.hid HB9.out⟩
          · by_cases hl0 : l.length = 0
            · have hl1' : ¬ (l.length : Int) > 0 := by omega
              have hl2' : ¬ (0 : Int) < (l.length : Int) := by omega
              have q1 := S5.out.frm 1
              clear hl0
              go_wp2_with fail
              go_meet
              exact ⟨_, _, _, _, _, _, Lib.hid (S5.out.le (by omega)), Lib.hid HBD.out⟩
            · have hl1' : (l.length : Int) > 0 := by omega
              have hl2' : (0 : Int) < (l.length : Int) := by omega
              have q1 := S5.out.frm 1
              have SD := Lib.hid S5.out.drew
              have hl30 : l.length ≤ 30 := hl
              go_upto_region 25 with fail
              go_region_with ((first
                | (go_at_call 49; (with_reducible refine (pick_rdr b _ (l.length : Int) _ SD.out.rdr (by omega) (by omega) (by omega)).mono ?_); rintro e w6 ⟨p, hp, rfl, hg6, hR6⟩; have S6 := Lib.hid (SD.out.pick hg6 hR6); have q1b := S6.out.frm 1; have hpl : p < l.length := (by omega); have hpl' : (p : Int) < (l.length : Int) := (by omega); have hp0 : (0 : Int) ≤ (p : Int) := (by omega))
                | (go_at_call 49; (with_reducible refine (pick_rdr b _ 33 _ S6.out.rdr (by omega) (by omega) (by omega)).mono ?_); rintro e w7 ⟨y7, hy7, rfl, hg7, hR7⟩; have S7 := Lib.hid (S6.out.pick hg7 hR7); have q1c := S7.out.frm 1; have hw7 : IntKind.i64.wrap ((y7 : Int) - 1) = (y7 : Int) - 1 := (IntWalk.i64_in _ (by omega)); obtain ⟨e1c, f1c⟩ := S7.out.cellp p hpl)))
              all_goals
                obtain ⟨l', S8, hl8, hb8⟩ := S7.out.piece p hpl ((y7 : Int) - 1)
                have S8 := Lib.hid S8
                have HB8 : Hid (RvBd rd li l') := Lib.hid ⟨HBD.out.1, HBD.out.2.1, HBD.out.2.2.1, HBD.out.2.2.2.1, by omega, hb8 HBD.out.2.2.2.2.2 (by omega)⟩
                clear hl8 hb8
                go_wp2_with fail
                go_meet
                exact ⟨_, _, _, _, _, l', Lib.hid (S8.out.le (by omega)), Lib.hid HB8.out⟩
          · have b0 : ((sw : Int) == 0) = false := by rw [beq_eq_false_iff_ne]; omega
            have b1 : ((sw : Int) == 1) = false := by rw [beq_eq_false_iff_ne]; omega
            have b2 : ((sw : Int) == 2) = false := by rw [beq_eq_false_iff_ne]; omega
            have b3 : ((sw : Int) == 3) = false := by rw [beq_eq_false_iff_ne]; omega
            have b4 : ((sw : Int) == 4) = false := by rw [beq_eq_false_iff_ne]; omega
            go_wp2_with fail
            go_meet
            exact ⟨_, _, _, _, _, _, Lib.hid (S5.out.le (by omega)), Lib.hid HBD.out⟩
        case rest =>
          clear S5 HBD HO l0 l1 r0 r1 hl hi8
          obtain ⟨g, c, rd, fi, li, l, S6, HB6⟩ := hcut
          have z0 := S6.out.zfrm 0
          have z1 := S6.out.zfrm 1
          have z2 := S6.out.zfrm 2
          have z3 := S6.out.zfrm 3
          have zt0 := S6.out.zthaw 0
          have zt1 := S6.out.zthaw 1
          have zt2 := S6.out.zthaw 2
          have zt3 := S6.out.zthaw 3
          have q0 := S6.out.frm 0
          have q1 := S6.out.frm 1
          have q2 := S6.out.frm 2
          have q3 := S6.out.frm 3
          have FIN := Lib.hid S6.out.fin
          go_wp2_with fail
          obtain ⟨G5, R5, F5, O5⟩ := FIN.out
          clear FIN z0 z1 z2 z3 zt0 zt1 zt2 zt3 q0 q1 q2 q3
          generalize ((((wc.setCell ⟨w.heap.size, 0, none⟩ (.int .i64 rd)).setCell ⟨w.heap.size, 1, none⟩ (.slice (some ⟨g, 0, none⟩) l.length c)).setCell ⟨w.heap.size, 2, none⟩ (.int .i64 fi)).setCell ⟨w.heap.size, 3, none⟩ (.int .i64 li)) = W7 at *
          have s0 := F5 0
          have s1 := F5 1
          have s2 := F5 2
          have s3 := F5 3
          refine bodyPost_ret (v := .agg #[.int .i64 rd, .slice (some ⟨g, 0, none⟩) l.length c, .int .i64 fi, .int .i64 li]) ?hr rfl ?_
          case hr => rw [results_cell_one rfl]; go_simp
          exact ⟨rd, fi, li, _, l, rfl, G5, R5.le (by omega), O5, by simp, HB6.out⟩

end Go.Proofs.Ytdhdomnhgcejhaa
