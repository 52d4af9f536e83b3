/- The model's ServersTry. -/
import Derived.Test.YtlhjhdlpejpooabISv
import Derived.Test.YtlhjhdlpejpooabSTry
import Derived.Deep.RegionHeldLaw
namespace Go.Proofs.Ytlhjhdlpejpooab
open Go.RowKit
set_option linter.unusedVariables false
set_option linter.unusedSimpArgs false

/-- Rows of the call's own: the slices lie apart from the row. -/
structure Rows (w W : World) (v : Value) (rows : List RgR) : Prop where
  bel : Below w.heap.size w W
  own : OwnR W w.heap.size v rows
  nn : v.ownBlock ≠ Option.none
  el : ∀ r ∈ rows, OwnTc W w.heap.size (gsl r) r.1.2 ∧ (gsl r).ownBlock ≠ Option.none ∧ (gsl r).ownBlock ≠ v.ownBlock
theorem Rows.below {w W W' : World} {v : Value} {rows : List RgR} (h : Rows w W v rows) (hb : Below W.heap.size W W') : Rows w W' v rows :=
  ⟨h.bel.trans (hb.mono h.bel.size), h.own.below hb, h.nn, fun r hr => ⟨(h.el r hr).1.below hb, (h.el r hr).2⟩⟩
theorem Rows.snoc {w W W' : World} {v v' : Value} {rows : List RgR} {r : RgR} (h : Rows w W v rows) (hg : (W.alloc (.cells #[.int .i64 r.1.1, gsl r] 28)).grownBy W' v.ownBlock) (ho : OwnR W' w.heap.size v' (rows ++ [r])) (hv : v'.ownBlock = v.ownBlock ∨ v'.ownBlock = some (W.heap.size + 1))
    (hr : OwnTc W w.heap.size (gsl r) r.1.2) (hn : (gsl r).ownBlock ≠ Option.none) (hrv : (gsl r).ownBlock ≠ v.ownBlock) : Rows w W' v' (rows ++ [r]) := by
  have U : Below W.heap.size W (W.alloc (.cells #[.int .i64 r.1.1, gsl r] 28)) := (Below.refl _ _).alloc (Nat.le_refl _) _
  have hb1 : Below w.heap.size w (W.alloc (.cells #[.int .i64 r.1.1, gsl r] 28)) := h.bel.alloc h.bel.size _
  have nn : v'.ownBlock ≠ Option.none := by
    rcases hv with e | e
    · rw [e]; exact h.nn
    · rw [e]; simp
  have key : ∀ s l, OwnTc W w.heap.size s l → s.ownBlock ≠ Option.none → s.ownBlock ≠ v.ownBlock → OwnTc W' w.heap.size s l ∧ s.ownBlock ≠ Option.none ∧ s.ownBlock ≠ v'.ownBlock := by
    intro s l h1 h2 h3
    refine ⟨World.ownsRow.kept (OwnTc.below h1 U) hg (.inr h3), h2, ?_⟩
    rcases hv with e | e
    · rw [e]; exact h3
    · rw [e]; intro q; have := (World.ownsRow.lt h1 _ q).2; omega
  refine ⟨hb1.grown hg hb1.size (fun j hj => (World.ownsRow.lt h.own j hj).1), ho, nn, fun q hq => ?_⟩
  rcases List.mem_append.1 hq with hq | hq
  · exact key _ _ (h.el q hq).1 (h.el q hq).2.1 (h.el q hq).2.2
  · rw [List.mem_singleton.1 hq]; exact key _ _ hr hn hrv
theorem Rows.start {w W : World} (h : Below w.heap.size w W) : Rows w (W.alloc (.cells #[] 28)) (.slice (some ⟨W.heap.size, 0, Option.none⟩) 0 0) [] :=
  ⟨h.alloc h.size _, own_new _ 2 w.heap.size W h.size, by simp [Value.ownBlock], fun r hr => by cases hr⟩
theorem Rows.rgs {w W : World} {v : Value} {rows : List RgR} (h : Rows w W v rows) (P : Prop) : Rgs P W v (rows.map Prod.fst) :=
  h.own.rgs P (fun r hr => Tcs.of_own (h.el r hr).1) (fun r hr _ => (h.el r hr).2.1)

/-- What ServersTry lays at place i. -/
theorem stry_el {L : List Reg} {p : Nat} {t : Tic} (h : sok L ∧ tkvd t ∧ (0 ≤ (p : Int) ∧ (p : Int) < L.length)) :
    (stry L (p : Int) t).1.length = L.length ∧ (∀ i, i < L.length → (stry L (p : Int) t).1.getD i rgD = if i = p ∧ home L.length t = (p : Int) then ((L.getD i rgD).1, (rtry (L.getD i rgD) t).1) else L.getD i rgD) ∧ (stry L (p : Int) t).2 = (if home L.length t = (p : Int) then (rtry (L.getD p rgD) t).2 else false) := by
  by_cases hh : (p : Int) = home L.length t
  · rw [stry_home h hh, show (p : Int).toNat = p from by omega]
    refine ⟨by simp, fun i hi => ?_, by rw [if_pos hh.symm]⟩
    have hp : p < L.length := by omega
    show (L.set p _).getD i rgD = _
    rw [getD_setR L p i _ hp]
    by_cases e : i = p
    · subst e; rw [if_pos rfl, if_pos ⟨rfl, hh.symm⟩]
    · rw [if_neg e, if_neg (fun k => e k.1)]
  · rw [stry_away h hh]
    exact ⟨rfl, fun i hi => by rw [if_neg (fun k => hh k.2.symm)], by rw [if_neg (fun k => hh k.symm)]⟩
def GotRs (w : World) (L : List Reg) (q : Bool) (e : Ending) (w' : World) : Prop := ∃ v', e = .returned (.tuple #[v', .bool q]) ∧ Rgs False w' v' L ∧ Below w.heap.size w w'
set_option maxRecDepth 100000 in
set_option maxHeartbeats 16000000 in
theorem ssv_any (v : Value) (L : List Reg) (at' x y : Int) (w : World) (h : Rgs True w v L) (hl : L.length ≤ 1048576) (hlen : ∀ r ∈ L, r.2.length ≤ 1048576) :
    Calls Try.prog 21 #[v, .int .i64 at', .agg #[.int .i64 x, .int .i64 y]] w (GotRs w (stry L at' (x, y)).1 (stry L at' (x, y)).2) := by
  have HV := Lib.hid h
  have HLN := Lib.hid hlen
  obtain ⟨a, c, rfl, hcap, hc⟩ := h
  clear hc hlen
  have U1 := Lib.hid ((Below.refl w.heap.size w).alloc (Nat.le_refl _) (.cells #[.int .i64 x, .int .i64 y] 38))
  have T1 := Lib.hid (RgV.new w x (.int .i64 y) 38)
  have hw0 : IntKind.i64.wrap ((L.length : Int) - 1) = (L.length : Int) - 1 := IntWalk.i64_in _ (by omega)
  go_enter Try.func21, Try.ntmps21
  go_wp2_with fail
  generalize w.alloc (.cells #[.int .i64 x, .int .i64 y] 38) = W1 at U1 T1 ⊢
  refine (svalid_any _ L W1 ((HV.out.below U1.out).weak) hl HLN.out).mono ?_
  rintro e w2 ⟨rfl, hb2⟩
  have U2 := Lib.hid (U1.out.trans (hb2.mono U1.out.size))
  have T2 := Lib.hid (T1.out.below hb2)
  clear hb2 U1 T1
  have empty : ∀ W : World, Below w.heap.size w W → (Value.slice (some ⟨W.heap.size, 0, Option.none⟩) 0 0 : Value) = .slice (some ⟨W.heap.size, 0, Option.none⟩) ([] : List Reg).length 0 ∧ Rgs False (W.alloc (.cells #[] 28)) (.slice (some ⟨W.heap.size, 0, Option.none⟩) 0 0) [] ∧ Below w.heap.size w (W.alloc (.cells #[] 28)) := fun W hW => ⟨rfl, ⟨_, 0, rfl, Nat.le_refl _, fun h => absurd rfl h⟩, hW.alloc hW.size _⟩
  have HEM := Lib.hid empty
  clear empty
  by_cases k1 : sok L
  · rw [decide_eq_true k1]
    have HK := Lib.hid k1
    have hl4 : L.length ≤ 4 := k1.1.2
    have hl1 : 1 ≤ L.length := k1.1.1
    clear k1
    obtain ⟨t0, t1⟩ := T2.out
    go_wp2_with fail
    refine (sticket_any (x, y) w2).mono ?_
    rintro e w3 ⟨rfl, hb3⟩
    have U3 := Lib.hid (U2.out.trans (hb3.mono U2.out.size))
    have T3 := Lib.hid (T2.out.below hb3)
    clear hb3 U2 T2 t0 t1
    by_cases k2 : tkvd (x, y)
    · rw [decide_eq_true k2]
      have HT := Lib.hid k2
      clear k2
      go_wp2_with fail
      refine (l6In_any at' 0 ((L.length : Int) - 1) w3).mono ?_
      rintro e w3' ⟨rfl, rfl⟩
      by_cases k3 : 0 ≤ at' ∧ at' ≤ (L.length : Int) - 1
      · rw [decide_eq_true k3]
        obtain ⟨p, rfl⟩ : ∃ p : Nat, at' = (p : Int) := ⟨at'.toNat, by omega⟩
        have hp : p < L.length := by omega
        have HG := Lib.hid (show sok L ∧ tkvd (x, y) ∧ (0 ≤ (p : Int) ∧ (p : Int) < L.length) from ⟨HK.out, HT.out, by omega, by omega⟩)
        have HEL := Lib.hid (stry_el HG.out)
        obtain ⟨L', hL'⟩ : ∃ L', (stry L (p : Int) (x, y)).1 = L' := ⟨_, rfl⟩
        obtain ⟨q', hq'⟩ : ∃ q', (stry L (p : Int) (x, y)).2 = q' := ⟨_, rfl⟩
        rw [hL', hq'] at HEL ⊢
        obtain ⟨hm, hhm⟩ : ∃ hm, home (L.length : Int) (x, y) = hm := ⟨_, rfl⟩
        have CH := Lib.hid (fun W => shome_any (L.length : Int) x y W)
        rw [hhm] at CH HEL
        have HLE := Lib.hid hL'
        have HQE := Lib.hid hq'
        clear k3 hL' hq' hhm
        have RS := Lib.hid (Rows.start U3.out)
        have UE : Below w3.heap.size w3 (w3.alloc (.cells #[] 28)) := (Below.refl _ _).alloc (Nat.le_refl _) _
        have T4 := Lib.hid (T3.out.below UE)
        have V4 := Lib.hid ((HV.out.below U3.out).below UE)
        have HTB : Hid (w.heap.size < w3.heap.size) := Lib.hid T3.out.lt
        have hvt : Hid ((Value.slice (some ⟨w3.heap.size, 0, Option.none⟩) 0 0).ownBlock ≠ some w.heap.size) := Lib.hid fun e => by have := Option.some.inj e; simp only at this; have := HTB.out; omega
        clear UE T3 U3
        go_upto_block 0 with fail
        generalize w3.alloc (.cells #[] 28) = W4 at RS T4 V4 ⊢
        generalize (Value.slice (some ⟨w3.heap.size, 0, Option.none⟩) 0 0) = v0 at RS hvt ⊢
        have D0 : Hid ((if p < 0 ∧ True then q' else false) = false) := Lib.hid (by simp)
        clear D0
        go_wp2_with fail
        go_loopw [8, 9, 10] (fun sv dv iv wr => ∃ (j : Nat) (v : Value) (rows : List RgR), j ≤ L.length ∧ iv = .int .i64 (j : Int) ∧ sv = v ∧ dv = .bool (if p < j then q' else false) ∧ Hid (rows.map Prod.fst = L'.take j) ∧ Hid (Rows w wr v rows) ∧ v.ownBlock ≠ some w.heap.size ∧ Hid (RgV wr w.heap.size x (.int .i64 y)) ∧ Hid (Rgs True wr (.slice a L.length c) L)) (fun _ _ iv _ => L.length - (intOf iv).toNat)
        case atStart => exact ⟨0, v0, [], Nat.zero_le _, rfl, rfl, by simp, Lib.hid (by simp), RS, hvt.out, T4, V4⟩
        case round =>
          obtain ⟨j, v, rows, hj, rfl, rfl, rfl, HRW, HRS, hvw, HTk, HRg⟩ := hrel
          by_cases hlt : j < L.length
          · obtain ⟨dv, hdv⟩ : ∃ dv : Bool, (if p < j then q' else false) = dv := ⟨_, rfl⟩
            rw [hdv]
            have HDV := Lib.hid hdv
            clear hdv
            have hlt' : (j : Int) < (L.length : Int) := by omega
            obtain ⟨a', c', he, _, hcx⟩ := HRg.out
            obtain ⟨g, o, ha, hc⟩ := hcx (by rintro rfl; simp at hlt)
            injection he with he1 he2 he3
            subst he1
            subst he3
            clear he2
            subst ha
            obtain ⟨s, hr⟩ := hc j hlt
            clear hc hcx
            have hbd := HLN.out _ (takeRg L j hlt).2
            have hok : Hid (regok (L.getD j rgD)) := Lib.hid (HK.out.2 _ (takeRg L j hlt).2)
            have HTKJ := Lib.hid (takeRg L' j (by rw [HEL.out.1]; exact hlt)).1
            have HELJ := Lib.hid (HEL.out.2.1 j hlt)
            obtain ⟨r, hre⟩ : ∃ r, L.getD j rgD = r := ⟨_, rfl⟩
            rw [hre] at hr hbd hok HELJ
            have HRE := Lib.hid hre
            clear hre
            obtain ⟨n, m⟩ := r
            obtain ⟨e0, e1, hts, hsn⟩ := hr
            simp only at e0 e1 hbd hts
            have hsn := hsn trivial
            obtain ⟨ax, cx, rfl⟩ : ∃ av cv, s = .slice av m.length cv := by obtain ⟨_, _, av, cv, e, _⟩ := hts; exact ⟨av, cv, e⟩
            have HTS := Lib.hid hts
            have HSN := Lib.hid hsn
            have hm8 : m.length ≤ 8 := hok.out.2.1
            clear hts hsn
            obtain ⟨t0, t1⟩ := HTk.out
            have KS := Lib.hid (fun (W : World) (hb : Below wr.heap.size wr W) => And.intro ((hb.cell (World.block_lt_of_cell? _ _ e0)).trans e0) ((hb.cell (World.block_lt_of_cell? _ _ e1)).trans e1))
            have SR := Lib.hid (fun (W : World) (hb : Below wr.heap.size wr W) => SrcT.of (HTS.out.1.below hb) HTS.out.2.1)
            have AD : Hid (Below wr.heap.size wr wr.drew) := Lib.hid (Below.refl _ _).drew
            have AZ : Hid (Below wr.heap.size wr (wr.alloc (.cells #[.int .i64 0, .slice Option.none 0 0] 28)).drew) := Lib.hid ((Below.refl _ _).alloc (Nat.le_refl _) _).drew
            have AA : Hid (Below wr.heap.size wr (wr.alloc (.cells #[] 38)).drew) := Lib.hid ((Below.refl _ _).alloc (Nat.le_refl _) _).drew
            have AB : Hid (Below wr.heap.size wr ((wr.alloc (.cells #[] 38)).alloc (.cells #[.int .i64 0, .slice Option.none 0 0] 28)).drew) := Lib.hid (((Below.refl _ _).alloc (Nat.le_refl _) _).alloc (by simp) _).drew
            have AC : Hid (Below wr.heap.size wr ((wr.alloc (.cells #[.int .i64 0, .slice Option.none 0 0] 28)).alloc (.cells #[] 38)).drew) := Lib.hid (((Below.refl _ _).alloc (Nat.le_refl _) _).alloc (by simp) _).drew
            have e1z : (wr.alloc (.cells #[.int .i64 0, .slice Option.none 0 0] 28)).heap.size = wr.heap.size + 1 := by simp
            have e1t : (wr.alloc (.cells #[] 38)).heap.size = wr.heap.size + 1 := by simp
            have OA : Hid (OwnTc (wr.alloc (.cells #[] 38)).drew wr.heap.size (.slice (some ⟨wr.heap.size, 0, Option.none⟩) 0 0) []) := Lib.hid (OwnTc.below (own_new _ 2 wr.heap.size wr (Nat.le_refl _)) (Below.refl _ _).drew)
            have OB : Hid (OwnTc ((wr.alloc (.cells #[] 38)).alloc (.cells #[.int .i64 0, .slice Option.none 0 0] 28)).drew wr.heap.size (.slice (some ⟨wr.heap.size, 0, Option.none⟩) 0 0) []) := Lib.hid (OwnTc.below (own_new _ 2 wr.heap.size wr (Nat.le_refl _)) ((Below.refl _ _).alloc (Nat.le_refl _) _).drew)
            have OC : Hid (OwnTc ((wr.alloc (.cells #[.int .i64 0, .slice Option.none 0 0] 28)).alloc (.cells #[] 38)).drew wr.heap.size (.slice (some ⟨wr.heap.size + 1, 0, Option.none⟩) 0 0) []) := Lib.hid (by rw [← e1z]; exact OwnTc.below (own_new _ 2 wr.heap.size _ (by omega)) (Below.refl _ _).drew)
            have KB : Hid (RgV ((wr.alloc (.cells #[] 38)).alloc (.cells #[.int .i64 0, .slice Option.none 0 0] 28)).drew (wr.heap.size + 1) 0 (.slice Option.none 0 0)) := Lib.hid (by rw [← e1t]; exact (RgV.new _ 0 _ _).below (Below.refl _ _).drew)
            have FB : Hid (Soft ((wr.alloc (.cells #[] 38)).alloc (.cells #[.int .i64 0, .slice Option.none 0 0] 28)).drew (wr.heap.size + 1)) := Lib.hid (by rw [← e1t]; exact (Soft.new _ _ _).below (Below.refl _ _).drew (by simp))
            have KC : Hid (RgV ((wr.alloc (.cells #[.int .i64 0, .slice Option.none 0 0] 28)).alloc (.cells #[] 38)).drew wr.heap.size 0 (.slice Option.none 0 0)) := Lib.hid ((RgV.new wr 0 _ _).below (((Below.refl _ _).alloc (Nat.le_refl _) _).drew))
            have FC : Hid (Soft ((wr.alloc (.cells #[.int .i64 0, .slice Option.none 0 0] 28)).alloc (.cells #[] 38)).drew wr.heap.size) := Lib.hid ((Soft.new wr _ _).below (((Below.refl _ _).alloc (Nat.le_refl _) _).drew) (by simp))
            clear e1z e1t
            have kD := KS.out _ AD.out
            have kZ := KS.out _ AZ.out
            have kA := KS.out _ AA.out
            have kB := KS.out _ AB.out
            have kC := KS.out _ AC.out
            go_upto_region 8 with fail
            go_cut [11] (fun xv wx => ∃ (xb : Nat) (s : Value), xv = .pointer (some ⟨xb, 0, Option.none⟩) ∧ Hid (Below wr.heap.size wr wx) ∧ Hid (RgV wx xb n s) ∧ Hid (Soft wx xb) ∧ Hid (OwnTc wx wr.heap.size s m) ∧ Hid (s.ownBlock ≠ Option.none ∧ s.ownBlock ≠ some xb ∧ wr.heap.size ≤ xb))
            case first =>
              go_region_held_law (fun W => W.cell? ⟨g, o + j * 2, Option.none⟩ = some (.int .i64 n) ∧ W.cell? ⟨g, o + j * 2 + 1, Option.none⟩ = some (.slice ax m.length cx)) (with_reducible first | assumption | exact kD | exact kZ | exact kA | exact kB | exact kC | exact k8 | exact k8a | exact k9)
                ((first
                  | ((with_reducible refine step_append_tc ((wr.alloc (.cells #[] 38)).drew) ?_ (.tmp 43) (.tmp 48) ?_ wr.heap.size _ [] m ?_ OA.out _ ?_ (SR.out _ AA.out) ?_ AA.out.size ?_); rfl; rfl; rfl; rfl; (simp; omega); intro aa nn cc w8 hO8 hnn hg8 hgg8 hnil; have B8 := Lib.hid (app_below AA.out OA.out hg8); have k8 := KS.out _ B8.out; have k8a := KS.out _ (B8.out.alloc B8.out.size (.cells #[.int .i64 0, .slice Option.none 0 0] 28)); have BE := Lib.hid (B8.out.alloc B8.out.size (.cells #[.int .i64 n, .slice aa nn cc] 28)); have k9 := KS.out _ BE.out; have XV := Lib.hid (RgV.new w8 n (.slice aa nn cc) 28); have XF := Lib.hid (Soft.new w8 #[.int .i64 n, .slice aa nn cc] 28); have OV : Hid (OwnTc (w8.alloc (.cells #[.int .i64 n, .slice aa nn cc] 28)) wr.heap.size (.slice aa nn cc) ([] ++ m)) := Lib.hid (OwnTc.below hO8 ((Below.refl _ _).alloc (Nat.le_refl _) _)); have NX : Hid ((Value.slice aa nn cc).ownBlock ≠ Option.none ∧ (Value.slice aa nn cc).ownBlock ≠ some w8.heap.size ∧ wr.heap.size ≤ w8.heap.size) := Lib.hid ⟨(fun e => by rcases hgg8 with h | h <;> (rw [h] at e; cases e)), (fun e => by have := (World.ownsRow.lt hO8 _ e).2; omega), B8.out.size⟩)
                  | ((with_reducible refine step_append_tc (((wr.alloc (.cells #[] 38)).alloc (.cells #[.int .i64 0, .slice Option.none 0 0] 28)).drew) ?_ (.tmp 43) (.tmp 48) ?_ wr.heap.size _ [] m ?_ OB.out _ ?_ (SR.out _ AB.out) ?_ AB.out.size ?_); rfl; rfl; rfl; rfl; (simp; omega); intro aa nn cc w8 hO8 hnn hg8 hgg8 hnil; have B8 := Lib.hid (app_below AB.out OB.out hg8); have k8 := KS.out _ B8.out; have Z8 := KB.out.kept hg8 (fun e => absurd (Option.some.inj e) (Nat.succ_ne_self _)); have G8 := FB.out.kept hg8 KB.out.lt (fun e => absurd (Option.some.inj e) (Nat.succ_ne_self _)); have z0 := Z8.c0; have z1 := Z8.c1; have f0 := G8 0; have f1 := G8 1; have hvx : (Value.slice aa nn cc).ownBlock ≠ some (wr.heap.size + 1) := (fun e => by rcases hgg8 with h | h <;> (rw [h] at e; have := Option.some.inj e; simp at this <;> omega)); have BE := Lib.hid ((B8.out.setCell (p := ⟨wr.heap.size + 1, 0, Option.none⟩) (Nat.le_succ _) (.int .i64 n)).setCell (p := ⟨wr.heap.size + 1, 1, Option.none⟩) (Nat.le_succ _) (.slice aa nn cc)); have k9 := KS.out _ BE.out; have XV := Lib.hid ((Z8.set0 n).set1 (.slice aa nn cc)); have XF := Lib.hid ((G8.set ⟨wr.heap.size + 1, 0, Option.none⟩ (.int .i64 n)).set ⟨wr.heap.size + 1, 1, Option.none⟩ (.slice aa nn cc)); have OV := Lib.hid (OwnTc.far (i := 1) (u := .slice aa nn cc) (OwnTc.far (i := 0) (u := .int .i64 n) hO8 hvx) hvx); have NX : Hid ((Value.slice aa nn cc).ownBlock ≠ Option.none ∧ (Value.slice aa nn cc).ownBlock ≠ some (wr.heap.size + 1) ∧ wr.heap.size ≤ wr.heap.size + 1) := Lib.hid ⟨(fun e => by rcases hgg8 with h | h <;> (rw [h] at e; cases e)), hvx, Nat.le_succ _⟩)
                  | ((with_reducible refine step_append_tc (((wr.alloc (.cells #[.int .i64 0, .slice Option.none 0 0] 28)).alloc (.cells #[] 38)).drew) ?_ (.tmp 43) (.tmp 48) ?_ wr.heap.size _ [] m ?_ OC.out _ ?_ (SR.out _ AC.out) ?_ AC.out.size ?_); rfl; rfl; rfl; rfl; (simp; omega); intro aa nn cc w8 hO8 hnn hg8 hgg8 hnil; have B8 := Lib.hid (app_below AC.out OC.out hg8); have k8 := KS.out _ B8.out; have Z8 := KC.out.kept hg8 (fun e => absurd (Option.some.inj e) (Nat.ne_of_lt (Nat.lt_succ_self _))); have G8 := FC.out.kept hg8 KC.out.lt (fun e => absurd (Option.some.inj e) (Nat.ne_of_lt (Nat.lt_succ_self _))); have z0 := Z8.c0; have z1 := Z8.c1; have f0 := G8 0; have f1 := G8 1; have hvx : (Value.slice aa nn cc).ownBlock ≠ some wr.heap.size := (fun e => by rcases hgg8 with h | h <;> (rw [h] at e; have := Option.some.inj e; simp at this <;> omega)); have BE := Lib.hid ((B8.out.setCell (p := ⟨wr.heap.size, 0, Option.none⟩) (Nat.le_refl _) (.int .i64 n)).setCell (p := ⟨wr.heap.size, 1, Option.none⟩) (Nat.le_refl _) (.slice aa nn cc)); have k9 := KS.out _ BE.out; have XV := Lib.hid ((Z8.set0 n).set1 (.slice aa nn cc)); have XF := Lib.hid ((G8.set ⟨wr.heap.size, 0, Option.none⟩ (.int .i64 n)).set ⟨wr.heap.size, 1, Option.none⟩ (.slice aa nn cc)); have OV := Lib.hid (OwnTc.far (i := 1) (u := .slice aa nn cc) (OwnTc.far (i := 0) (u := .int .i64 n) hO8 hvx) hvx); have NX : Hid ((Value.slice aa nn cc).ownBlock ≠ Option.none ∧ (Value.slice aa nn cc).ownBlock ≠ some wr.heap.size ∧ wr.heap.size ≤ wr.heap.size) := Lib.hid ⟨(fun e => by rcases hgg8 with h | h <;> (rw [h] at e; cases e)), hvx, Nat.le_refl _⟩)))
              all_goals
                go_wp2_with fail
                go_meet
                exact ⟨_, _, rfl, BE, XV, XF, OV, NX⟩
            case rest =>
              obtain ⟨xb, s, rfl, BE, XV, XF, OV, NX⟩ := hcut
              have HTB4 : Hid (w.heap.size < wr.heap.size) := Lib.hid HTk.out.lt
              clear AD AZ AA AB AC OA OB OC KB FB KC FC kD kZ kA kB kC t0 t1 e0 e1
              obtain ⟨t0, t1⟩ := HTk.out.below BE.out
              by_cases hjp : j = p
              · subst hjp
                clear hlt'
                have hpp : ((j : Int) == (j : Int)) = true := by simp
                by_cases hh : hm = (j : Int)
                · have d5 : (hm == (j : Int)) = true := by rw [beq_iff_eq]; exact hh
                  obtain ⟨m8, hm8⟩ : ∃ m8, (rtry (n, m) (x, y)).1 = m8 := ⟨_, rfl⟩
                  obtain ⟨q8, hq8⟩ : ∃ q8, (rtry (n, m) (x, y)).2 = q8 := ⟨_, rfl⟩
                  have EJ0 : Hid (L'.getD j rgD = (n, m8)) := Lib.hid (by rw [HELJ.out, if_pos ⟨rfl, hh⟩, hm8])
                  have FD0 : Hid (Value.bool q8 = .bool (if j < j + 1 then q' else false)) := Lib.hid (by
                    have := HEL.out.2.2; rw [if_pos hh, HRE.out, hq8] at this
                    rw [if_pos (Nat.lt_succ_self j), this])
                  clear HELJ
                  go_wp2_with fail
                  refine (CH.out _).mono ?_
                  rintro e w9 ⟨rfl, hb9⟩
                  have BE9 := Lib.hid (BE.out.trans (hb9.mono BE.out.size))
                  have XV9 := Lib.hid (XV.out.below hb9)
                  have XF9 := Lib.hid (XF.out.below hb9 XV.out.lt)
                  have OV9 := Lib.hid (OwnTc.below OV.out hb9)
                  clear hb9 t0 t1 BE XV XF OV
                  obtain ⟨t0, t1⟩ := HTk.out.below BE9.out
                  have hlt' : (j : Int) < (L.length : Int) := by omega
                  have KS9 := Lib.hid (fun (W : World) (hb : Below w9.heap.size w9 W) => And.intro (KS.out W (BE9.out.trans (hb.mono BE9.out.size))).1 (And.intro (KS.out W (BE9.out.trans (hb.mono BE9.out.size))).2 (And.intro ((hb.cell (World.block_lt_of_cell? _ _ t0)).trans t0) ((hb.cell (World.block_lt_of_cell? _ _ t1)).trans t1))))
                  have TS9 := Lib.hid (fun (W : World) (hb : Below w9.heap.size w9 W) => HTS.out.below (BE9.out.trans (hb.mono BE9.out.size)))
                  obtain ⟨e0, e1⟩ := KS.out _ BE9.out
                  have BA : Hid (Below w9.heap.size w9 w9.drew) := Lib.hid (Below.refl _ _).drew
                  have BB : Hid (Below w9.heap.size w9 (w9.alloc (.cells #[.int .i64 0, .slice Option.none 0 0] 28)).drew) := Lib.hid ((Below.refl _ _).alloc (Nat.le_refl _) _).drew
                  have C1 := Lib.hid (stry_any n x y _ m w9.drew (TS9.out _ BA.out) HSN.out hok.out)
                  have C2 := Lib.hid (stry_any n x y _ m (w9.alloc (.cells #[.int .i64 0, .slice Option.none 0 0] 28)).drew (TS9.out _ BB.out) HSN.out hok.out)
                  rw [hm8, hq8] at C1 C2
                  have kA := KS9.out _ BA.out
                  have kB := KS9.out _ BB.out
                  have ZB := Lib.hid ((RgV.new w9 0 (.slice Option.none 0 0) 28).below (Below.refl _ _).drew)
                  have ZF := Lib.hid ((Soft.new w9 #[.int .i64 0, .slice Option.none 0 0] 28).below (Below.refl _ _).drew (by simp))
                  have hsB : Hid (w9.heap.size < (w9.alloc (.cells #[.int .i64 0, .slice Option.none 0 0] 28)).drew.heap.size) := Lib.hid (by simp)
                  have HXB : Hid (xb < w9.heap.size) := Lib.hid XV9.out.lt
                  clear hm8 hq8
                  go_upto_region 10 with fail
                  go_region_held3 (fun W => W.cell? ⟨g, o + j * 2, Option.none⟩ = some (.int .i64 n) ∧ W.cell? ⟨g, o + j * 2 + 1, Option.none⟩ = some (.slice ax m.length cx) ∧ W.cell? ⟨w.heap.size, 0, Option.none⟩ = some (.int .i64 x) ∧ W.cell? ⟨w.heap.size, 1, Option.none⟩ = some (.int .i64 y)) (with_reducible first | assumption | exact kA | exact kB | exact k8 | exact k8a | exact k9)
                    ((first
                      | (go_at_call 51; (with_reducible refine C1.out.mono ?_); rintro e w8 ⟨v8, rfl, hO8, hb8, hn8⟩; obtain ⟨a8, c8, rfl⟩ := ownsRow_shape hO8; have B8 := Lib.hid (BA.out.trans hb8); have k8 := KS9.out _ B8.out; have k8a := KS9.out _ (B8.out.alloc B8.out.size (.cells #[.int .i64 0, .slice Option.none 0 0] 28)); have BX := Lib.hid (B8.out.alloc B8.out.size (.cells #[.int .i64 n, .slice a8 m8.length c8] 28)); have k9 := KS9.out _ BX.out; have XZ := Lib.hid (RgV.new w8 n (.slice a8 m8.length c8) 28); have OZ : Hid (OwnTc (w8.alloc (.cells #[.int .i64 n, .slice a8 m8.length c8] 28)) w9.heap.size (.slice a8 m8.length c8) m8) := Lib.hid (OwnTc.below hO8 ((Below.refl _ _).alloc (Nat.le_refl _) _)); have NN2 := Lib.hid hn8)
                      | (go_at_call 51; (with_reducible refine C2.out.mono ?_); rintro e w8 ⟨v8, rfl, hO8, hb8, hn8⟩; obtain ⟨a8, c8, rfl⟩ := ownsRow_shape hO8; have B8 := Lib.hid (BB.out.trans (hb8.mono (Nat.le_of_lt hsB.out))); have k8 := KS9.out _ B8.out; have Z8 := ZB.out.below hb8; have G8 := ZF.out.below hb8 ZB.out.lt; have z0 := Z8.c0; have z1 := Z8.c1; have f0 := G8 0; have f1 := G8 1; have BX := Lib.hid ((B8.out.setCell (p := ⟨w9.heap.size, 0, Option.none⟩) (Nat.le_refl _) (.int .i64 n)).setCell (p := ⟨w9.heap.size, 1, Option.none⟩) (Nat.le_refl _) (.slice a8 m8.length c8)); have k9 := KS9.out _ BX.out; have XZ := Lib.hid ((Z8.set0 n).set1 (.slice a8 m8.length c8)); have hvx : (Value.slice a8 m8.length c8).ownBlock ≠ some w9.heap.size := (fun e => by have := (World.ownsRow.lt hO8 _ e).1; have := hsB.out; omega); have OZ := Lib.hid (OwnTc.lower (OwnTc.far (i := 1) (u := .slice a8 m8.length c8) (OwnTc.far (i := 0) (u := .int .i64 n) hO8 hvx) hvx) (Nat.le_of_lt hsB.out)); have NN2 := Lib.hid hn8)))
                  all_goals
                    have HRX2 : (Value.slice a8 m8.length c8).ownBlock ≠ some xb := fun e => by have := (World.ownsRow.lt OZ.out _ e).1; have := HXB.out; omega
                    have hxw : wr.heap.size ≤ xb := NX.out.2.2
                    have BY := Lib.hid (BE9.out.trans (BX.out.mono BE9.out.size))
                    have BE2 := Lib.hid ((BY.out.setCell (p := ⟨xb, 0, Option.none⟩) hxw (.int .i64 n)).setCell (p := ⟨xb, 1, Option.none⟩) hxw (.slice a8 m8.length c8))
                    have XV2 := Lib.hid (((XV9.out.below BX.out).set0 n).set1 (.slice a8 m8.length c8))
                    have OV2 := Lib.hid (OwnTc.far (i := 1) (u := .slice a8 m8.length c8) (OwnTc.far (i := 0) (u := .int .i64 n) (OwnTc.lower OZ.out BE9.out.size) HRX2) HRX2)
                    obtain ⟨y0, y1⟩ := XZ.out
                    obtain ⟨q0, q1⟩ := XV9.out.below BX.out
                    have g0 := (XF9.out.below BX.out XV9.out.lt) 0
                    have g1 := (XF9.out.below BX.out XV9.out.lt) 1
                    clear kA kB k8 k9 e0 e1 t0 t1 HRX2 hxw
                    have EJ := EJ0
                    have FD2 := FD0
                    obtain ⟨t0, t1⟩ := HTk.out.below BE2.out
                    have HRX := Lib.hid (HRS.out.below BE2.out)
                    have OL := Lib.hid (OwnTc.lower OV2.out HRS.out.bel.size)
                    have LR : Hid (rows.length = j) := Lib.hid (by have := congrArg List.length HRW.out; simp at this; have := HEL.out.1; omega)
                    have HRV : Hid ((Value.slice a8 m8.length c8).ownBlock ≠ u8.ownBlock) := Lib.hid (fun e => by
                      cases hq : u8.ownBlock with
                      | none => exact HRS.out.nn hq
                      | some q => rw [hq] at e; have := (World.ownsRow.lt OV2.out _ e).1; have := (World.ownsRow.lt HRS.out.own _ hq).2; omega)
                    have HSX := Lib.hid BE2.out.size
                    have TKX := Lib.hid (HTk.out.below BE2.out)
                    obtain ⟨x0, x1⟩ := XV2.out
                    clear t0 t1
                    go_wp2_with (at_builtin; refine wpList_app_reg _ rfl _ _ rfl w.heap.size _ rows rfl HRX.out.own ((n, m8), a8, c8) _ _ rfl (by simp) ?c1 ?c2 ?_)
                    case c1 => have := LR.out; omega
                    case c2 => exact HRX.out.bel.size
                    intro v7 w7 hO7 hg7 hv7
                    have RW7 := Lib.hid (HRX.out.snoc hg7 hO7 (by simpa using hv7) OL.out NN2.out HRV.out)
                    have RM7 : Hid ((rows ++ [((n, m8), a8, c8)]).map Prod.fst = L'.take (j + 1)) := Lib.hid (by rw [List.map_append, HRW.out, HTKJ.out, EJ.out]; rfl)
                    have TK7 := Lib.hid ((TKX.out.below ((Below.refl _ _).alloc (Nat.le_refl _) _)).kept hg7 (fun e => hvw e.symm))
                    have VG7 := Lib.hid (HV.out.below RW7.out.bel)
                    have hv7w : v7.ownBlock ≠ some w.heap.size := fun e => by
                      rcases hv7 with q | q
                      · exact hvw (q.symm.trans e)
                      · have := Option.some.inj (q.symm.trans e); have h5 := HSX.out; simp at h5; have := HTB4.out; omega
                    clear hg7 hO7 hv7 x0 x1
                    go_wp2_with fail
                    go_roundw
                    case rel => exact ⟨j + 1, v7, rows ++ [((n, m8), a8, c8)], by omega, by go_num, rfl, FD2.out, RM7, RW7, hv7w, TK7, VG7⟩
                    case measure => simp [intOf]; omega
                · have d5 : (hm == (j : Int)) = false := by rw [beq_eq_false_iff_ne]; exact hh
                  have EJ0 : Hid (L'.getD j rgD = (n, m)) := Lib.hid (by rw [HELJ.out, if_neg (fun h => hh h.2)])
                  have FD0 : Hid ((Value.bool dv) = .bool (if j < j + 1 then q' else false)) := Lib.hid (by
                    rw [← HDV.out, if_neg (Nat.lt_irrefl j), if_pos (Nat.lt_succ_self j)]
                    have := HEL.out.2.2; rw [if_neg hh] at this; rw [this])
                  clear HELJ
                  go_wp2_with fail
                  refine (CH.out _).mono ?_
                  rintro e w9 ⟨rfl, hb9⟩
                  have BE9 := Lib.hid (BE.out.trans (hb9.mono BE.out.size))
                  have XV9 := Lib.hid (XV.out.below hb9)
                  have XF9 := Lib.hid (XF.out.below hb9 XV.out.lt)
                  have OV9 := Lib.hid (OwnTc.below OV.out hb9)
                  clear hb9 t0 t1 BE XV XF OV
                  obtain ⟨t0, t1⟩ := HTk.out.below BE9.out
                  have hlt' : (j : Int) < (L.length : Int) := by omega
                  have BE2 := BE9
                  have OV2 := OV9
                  have XV2 := XV9
                  have EJ := EJ0
                  have FD2 := FD0
                  have NN2 : Hid (s.ownBlock ≠ Option.none) := Lib.hid NX.out.1
                  obtain ⟨m2, hm2⟩ : ∃ m2, m2 = m := ⟨_, rfl⟩
                  rw [← hm2] at OV2 EJ
                  clear hm2
                  obtain ⟨ra, rc, rfl⟩ := ownsRow_shape OV2.out
                  have HRX := Lib.hid (HRS.out.below BE2.out)
                  have OL := Lib.hid (OwnTc.lower OV2.out HRS.out.bel.size)
                  have LR : Hid (rows.length = j) := Lib.hid (by have := congrArg List.length HRW.out; simp at this; have := HEL.out.1; omega)
                  have HRV : Hid ((Value.slice ra m2.length rc).ownBlock ≠ u8.ownBlock) := Lib.hid (fun e => by
                    cases hq : u8.ownBlock with
                    | none => exact HRS.out.nn hq
                    | some q => rw [hq] at e; have := (World.ownsRow.lt OV2.out _ e).1; have := (World.ownsRow.lt HRS.out.own _ hq).2; omega)
                  have HSX := Lib.hid BE2.out.size
                  have TKX := Lib.hid (HTk.out.below BE2.out)
                  obtain ⟨x0, x1⟩ := XV2.out
                  clear t0 t1
                  go_wp2_with (at_builtin; refine wpList_app_reg _ rfl _ _ rfl w.heap.size _ rows rfl HRX.out.own ((n, m2), ra, rc) _ _ rfl rfl ?c1 ?c2 ?_)
                  case c1 => have := LR.out; omega
                  case c2 => exact HRX.out.bel.size
                  intro v7 w7 hO7 hg7 hv7
                  have RW7 := Lib.hid (HRX.out.snoc hg7 hO7 hv7 OL.out NN2.out HRV.out)
                  have RM7 : Hid ((rows ++ [((n, m2), ra, rc)]).map Prod.fst = L'.take (j + 1)) := Lib.hid (by rw [List.map_append, HRW.out, HTKJ.out, EJ.out]; rfl)
                  have TK7 := Lib.hid ((TKX.out.below ((Below.refl _ _).alloc (Nat.le_refl _) _)).kept hg7 (fun e => hvw e.symm))
                  have VG7 := Lib.hid (HV.out.below RW7.out.bel)
                  have hv7w : v7.ownBlock ≠ some w.heap.size := fun e => by
                    rcases hv7 with q | q
                    · exact hvw (q.symm.trans e)
                    · have := Option.some.inj (q.symm.trans e); have := HSX.out; have := HTB4.out; omega
                  clear hg7 hO7 hv7 x0 x1
                  go_wp2_with fail
                  go_roundw
                  case rel => exact ⟨j + 1, v7, rows ++ [((n, m2), ra, rc)], by omega, by go_num, rfl, FD2.out, RM7, RW7, hv7w, TK7, VG7⟩
                  case measure => simp [intOf]; omega
              · have hjp' : ¬ (j : Int) = (p : Int) := by omega
                have d4 : ((j : Int) == (p : Int)) = false := by rw [beq_eq_false_iff_ne]; exact hjp'
                have EJ0 : Hid (L'.getD j rgD = (n, m)) := Lib.hid (by rw [HELJ.out, if_neg (fun h => hjp h.1)])
                have FD0 : Hid ((Value.bool dv) = .bool (if p < j + 1 then q' else false)) := Lib.hid (by
                  rw [← HDV.out]
                  by_cases h1 : p < j
                  · rw [if_pos h1, if_pos (by omega)]
                  · rw [if_neg h1, if_neg (by omega)])
                clear HELJ
                have BE2 := BE
                have OV2 := OV
                have XV2 := XV
                have EJ := EJ0
                have FD2 := FD0
                have NN2 : Hid (s.ownBlock ≠ Option.none) := Lib.hid NX.out.1
                obtain ⟨m2, hm2⟩ : ∃ m2, m2 = m := ⟨_, rfl⟩
                rw [← hm2] at OV2 EJ
                clear hm2
                obtain ⟨ra, rc, rfl⟩ := ownsRow_shape OV2.out
                have HRX := Lib.hid (HRS.out.below BE2.out)
                have OL := Lib.hid (OwnTc.lower OV2.out HRS.out.bel.size)
                have LR : Hid (rows.length = j) := Lib.hid (by have := congrArg List.length HRW.out; simp at this; have := HEL.out.1; omega)
                have HRV : Hid ((Value.slice ra m2.length rc).ownBlock ≠ u8.ownBlock) := Lib.hid (fun e => by
                  cases hq : u8.ownBlock with
                  | none => exact HRS.out.nn hq
                  | some q => rw [hq] at e; have := (World.ownsRow.lt OV2.out _ e).1; have := (World.ownsRow.lt HRS.out.own _ hq).2; omega)
                have HSX := Lib.hid BE2.out.size
                have TKX := Lib.hid (HTk.out.below BE2.out)
                obtain ⟨x0, x1⟩ := XV2.out
                clear t0 t1
                go_wp2_with (at_builtin; refine wpList_app_reg _ rfl _ _ rfl w.heap.size _ rows rfl HRX.out.own ((n, m2), ra, rc) _ _ rfl rfl ?c1 ?c2 ?_)
                case c1 => have := LR.out; omega
                case c2 => exact HRX.out.bel.size
                intro v7 w7 hO7 hg7 hv7
                have RW7 := Lib.hid (HRX.out.snoc hg7 hO7 hv7 OL.out NN2.out HRV.out)
                have RM7 : Hid ((rows ++ [((n, m2), ra, rc)]).map Prod.fst = L'.take (j + 1)) := Lib.hid (by rw [List.map_append, HRW.out, HTKJ.out, EJ.out]; rfl)
                have TK7 := Lib.hid ((TKX.out.below ((Below.refl _ _).alloc (Nat.le_refl _) _)).kept hg7 (fun e => hvw e.symm))
                have VG7 := Lib.hid (HV.out.below RW7.out.bel)
                have hv7w : v7.ownBlock ≠ some w.heap.size := fun e => by
                  rcases hv7 with q | q
                  · exact hvw (q.symm.trans e)
                  · have := Option.some.inj (q.symm.trans e); have := HSX.out; have := HTB4.out; omega
                clear hg7 hO7 hv7 x0 x1
                go_wp2_with fail
                go_roundw
                case rel => exact ⟨j + 1, v7, rows ++ [((n, m2), ra, rc)], by omega, by go_num, rfl, FD2.out, RM7, RW7, hv7w, TK7, VG7⟩
                case measure => simp [intOf]; omega
          · have hlt' : ¬ (j : Int) < (L.length : Int) := by omega
            have hjl : j = L.length := by omega
            subst hjl
            have HF : Hid (rows.map Prod.fst = L') := Lib.hid (by rw [HRW.out, List.take_of_length_le (by rw [HEL.out.1]; exact Nat.le_refl _)])
            have HRR := Lib.hid (HRS.out.rgs False)
            rw [HF.out] at HRR
            obtain ⟨av, cv, rfl⟩ := ownsRow_shape HRS.out.own
            rw [if_pos hp]
            go_wp2_with fail
            go_ret2
            rw [HLE.out, HQE.out]
            exact ⟨_, rfl, HRR.out, HRS.out.bel⟩
      · rw [decide_eq_false k3]
        have HR := Lib.hid (stry_no (L := L) (i := at') (t := (x, y)) fun h => k3 (by have := h.2.2; omega))
        have HE := Lib.hid (HEM.out w3 U3.out)
        clear k3
        go_wp2_with fail
        go_ret2
        rw [HR.out]
        exact ⟨_, rfl, HE.out.2.1, HE.out.2.2⟩
    · rw [decide_eq_false k2]
      have HR := Lib.hid (stry_no (L := L) (i := at') (t := (x, y)) fun h => k2 h.2.1)
      have HE := Lib.hid (HEM.out w3 U3.out)
      clear k2
      go_wp2_with fail
      go_ret2
      rw [HR.out]
      exact ⟨_, rfl, HE.out.2.1, HE.out.2.2⟩
  · rw [decide_eq_false k1]
    have HR := Lib.hid (stry_no (L := L) (i := at') (t := (x, y)) fun h => k1 h.1)
    have HE := Lib.hid (HEM.out w2 U2.out)
    clear k1
    go_wp2_with fail
    go_ret2
    rw [HR.out]
    exact ⟨_, rfl, HE.out.2.1, HE.out.2.2⟩

end Go.Proofs.Ytlhjhdlpejpooab
