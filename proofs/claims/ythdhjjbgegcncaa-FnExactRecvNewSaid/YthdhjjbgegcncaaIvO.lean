/- Chapter 31, the program: RecvPut. -/
import Derived.Test.YthdhjjbgegcncaaIvN
import Derived.Test.YthdhjjbgegcncaaIvI
import Derived.Deep.DeepCutAuto
namespace Go.Proofs.Ythdhjjbgegcncaa
open Go.RowKit
set_option linter.unusedVariables false
set_option linter.unusedSimpArgs false

/-- An interval variable: its block. -/
structure Zv (W : World) (b : Nat) (u v : Value) : Prop where
  c : Cel W b u v
  t : Thaw W b
  typ : ∃ C m, W.heap[b]? = some (.cells C 55 m)
theorem Zv.new (w : World) (u v : Value) : Zv (w.alloc (.cells #[u, v] 55)) w.heap.size u v := ⟨Cel.new w _ u v, Thaw.new w _ [u, v], _, _, heap_alloc_new w _⟩
theorem Zv.lt {W : World} {b : Nat} {u v : Value} (h : Zv W b u v) : b < W.heap.size := h.c.lt
theorem Zv.below {W W' : World} {b : Nat} {u v : Value} (h : Zv W b u v) (hb : Below W.heap.size W W') : Zv W' b u v := ⟨h.c.below hb, h.t.below hb h.lt, by
  obtain ⟨C, m, k⟩ := h.typ
  exact ⟨C, m, (hb.block _ h.lt).trans k⟩⟩
theorem Cel.far {W : World} {b c i : Nat} {u v x : Value} (h : Cel W b u v) (hn : c ≠ b) : Cel (W.setCell ⟨c, i, none⟩ x) b u v := by
  have hne : ∀ j : Nat, (⟨c, i, none⟩ : Addr) ≠ ⟨b, j, none⟩ := fun j e => hn (by injection e)
  exact ⟨(World.cell?_setCell_other _ _ _ _ (hne 0)).trans h.c0, (World.cell?_setCell_other _ _ _ _ (hne 1)).trans h.c1⟩
theorem Cel.put {W : World} {b : Nat} {u v : Value} (h : Cel W b u v) (x y : Value) : Cel ((W.setCell ⟨b, 0, none⟩ x).setCell ⟨b, 1, none⟩ y) b x y := by
  have h1 : (W.setCell ⟨b, 0, none⟩ x).cell? ⟨b, 1, none⟩ = some v := (World.cell?_setCell_other _ _ _ _ (by simp)).trans h.c1
  exact ⟨(World.cell?_setCell_other _ _ _ _ (by simp)).trans (World.cell?_setCell_same _ _ _ h.c0), World.cell?_setCell_same _ _ _ h1⟩
theorem Byt.far {W : World} {b i : Nat} {T : TypeId} {u v : Value} {d : ByteArray} (h : Byt W v d) (hT : ∃ C m, W.heap[b]? = some (.cells C T m)) (hne : T ≠ 5) : Byt (W.setCell ⟨b, i, none⟩ u) v d :=
  h.grown (Lib.grownBy_setCell W b i u) fun q hq => by
    injection hq with hq
    subst hq
    obtain ⟨C, m, k⟩ := hT
    exact ⟨C, _, m, k, hne⟩
/-- What stands where the part is read as an interval and the stream as a list. -/
structure Wp (w W : World) (rd : Int) (v : Value) (fi li x : Int) (b : Nat) (V s : Value) (d : ByteArray) (l : List Qc) : Prop where
  g : Gw w W rd v fi li
  c : Cel W b (.int .i64 x) V
  y : Byt W V d
  i : Ivl W (w.heap.size + 2) s l
  hi : w.heap.size + 1 < b
theorem Wp.sc {w W : World} {rd fi li x : Int} {v V s : Value} {b : Nat} {d : ByteArray} {l : List Qc} (h : Wp w W rd v fi li x b V s d l) : W.cell? ⟨w.heap.size, 0, none⟩ = some (.int .i64 rd) ∧ W.cell? ⟨w.heap.size, 1, none⟩ = some v ∧ W.cell? ⟨w.heap.size, 2, none⟩ = some (.int .i64 fi) ∧ W.cell? ⟨w.heap.size, 3, none⟩ = some (.int .i64 li) ∧ W.cell? ⟨b, 0, none⟩ = some (.int .i64 x) ∧ W.cell? ⟨b, 1, none⟩ = some V := ⟨h.g.f 0, h.g.f 1, h.g.f 2, h.g.f 3, h.c.c0, h.c.c1⟩
theorem Wp.sc2 {w W : World} {rd fi li x : Int} {v V s : Value} {b : Nat} {d : ByteArray} {l : List Qc} (h : Wp w W rd v fi li x b V s d l) (x0 x1 x2 x3 : Value) :
    ((((W.setCell ⟨w.heap.size + 1, 0, none⟩ x0).setCell ⟨w.heap.size + 1, 1, none⟩ x1).setCell ⟨w.heap.size + 1, 2, none⟩ x2).setCell ⟨w.heap.size + 1, 3, none⟩ x3).cell? ⟨w.heap.size, 0, none⟩ = some (.int .i64 rd) ∧
    ((((W.setCell ⟨w.heap.size + 1, 0, none⟩ x0).setCell ⟨w.heap.size + 1, 1, none⟩ x1).setCell ⟨w.heap.size + 1, 2, none⟩ x2).setCell ⟨w.heap.size + 1, 3, none⟩ x3).cell? ⟨w.heap.size, 1, none⟩ = some v ∧
    ((((W.setCell ⟨w.heap.size + 1, 0, none⟩ x0).setCell ⟨w.heap.size + 1, 1, none⟩ x1).setCell ⟨w.heap.size + 1, 2, none⟩ x2).setCell ⟨w.heap.size + 1, 3, none⟩ x3).cell? ⟨w.heap.size, 2, none⟩ = some (.int .i64 fi) ∧
    ((((W.setCell ⟨w.heap.size + 1, 0, none⟩ x0).setCell ⟨w.heap.size + 1, 1, none⟩ x1).setCell ⟨w.heap.size + 1, 2, none⟩ x2).setCell ⟨w.heap.size + 1, 3, none⟩ x3).cell? ⟨w.heap.size, 3, none⟩ = some (.int .i64 li) ∧
    ((((W.setCell ⟨w.heap.size + 1, 0, none⟩ x0).setCell ⟨w.heap.size + 1, 1, none⟩ x1).setCell ⟨w.heap.size + 1, 2, none⟩ x2).setCell ⟨w.heap.size + 1, 3, none⟩ x3).cell? ⟨b, 0, none⟩ = some (.int .i64 x) ∧
    ((((W.setCell ⟨w.heap.size + 1, 0, none⟩ x0).setCell ⟨w.heap.size + 1, 1, none⟩ x1).setCell ⟨w.heap.size + 1, 2, none⟩ x2).setCell ⟨w.heap.size + 1, 3, none⟩ x3).cell? ⟨b, 1, none⟩ = some V := by
  obtain ⟨k0, k1, k2, k3⟩ := h.g.sc2 x0 x1 x2 x3
  have hh := h.hi
  have k := (((h.c.far (c := w.heap.size + 1) (i := 0) (x := x0) (by omega)).far (c := w.heap.size + 1) (i := 1) (x := x1) (by omega)).far (c := w.heap.size + 1) (i := 2) (x := x2) (by omega)).far (c := w.heap.size + 1) (i := 3) (x := x3) (by omega)
  exact ⟨k0, k1, k2, k3, k.c0, k.c1⟩
section
variable {w W W' : World} {rd fi li x : Int} {v V s : Value} {b : Nat} {d : ByteArray} {l : List Qc}
theorem Wp.below (h : Wp w W rd v fi li x b V s d l) (hb : Below W.heap.size W W') : Wp w W' rd v fi li x b V s d l := ⟨h.g.below hb, h.c.below hb, h.y.below hb, h.i.below hb, h.hi⟩
theorem Wp.set2 (h : Wp w W rd v fi li x b V s d l) (z : Int) : Wp w (W.setCell ⟨w.heap.size, 2, none⟩ (.int .i64 z)) rd v z li x b V s d l := by
  obtain ⟨C, m, k⟩ := h.g.typ
  exact ⟨h.g.set2 z, h.c.far (by have := h.hi; omega), h.y.far h.g.typ (by decide), h.i.far (fun e => by have := h.i.lo _ e; omega) ⟨C, _, m, k, by decide⟩, h.hi⟩
theorem Wp.stored (hg : Gw w W rd v fi li) (hz : Zv W b (.int .i64 0) (.slice none 0 0)) (hy : Byt W V d) {B : Nat} (hi : Ivl W B s l) (hB : w.heap.size + 2 ≤ B) (hbB : b < B) (hlo : w.heap.size + 1 < b) :
    Wp w ((W.setCell ⟨b, 0, none⟩ (.int .i64 x)).setCell ⟨b, 1, none⟩ V) rd v fi li x b V s d l := by
  have t1 := typ_set (i := 0) (u := .int .i64 x) hz.typ
  have key : ∀ {W : World} {u : Value} {i : Nat}, (∃ C m, W.heap[b]? = some (.cells C 55 m)) → Ivl W B s l → Ivl (W.setCell ⟨b, i, none⟩ u) B s l := by
    intro W u i ⟨C, m, k⟩ h
    exact h.far (fun e => by have := h.lo _ e; omega) ⟨C, _, m, k, by decide⟩
  exact ⟨(hg.far hlo _).far hlo _, hz.c.put _ _, (hy.far hz.typ (by decide)).far t1 (by decide), (key t1 (key hz.typ hi)).lower hB, hlo⟩
end

set_option maxRecDepth 100000 in
set_option maxHeartbeats 8000000 in
theorem irecvput_any (v : Value) (l : List Pc) (rd fi li off : Int) (d : ByteArray) (fin : Bool) (w : World) (h : Pcn w v l) (hl : l.length ≤ 2000000) (hsz : ∀ p ∈ l, p.1 ≤ 9223372036854775807 ∧ p.2.size ≤ 2000000) (hdz : d.size ≤ 2000000) :
    Calls Try.prog 20 #[.agg #[.int .i64 rd, v, .int .i64 fi, .int .i64 li], .int .i64 off, .string d, .bool fin] w (RPutAns w rd l fi li off d fin) := by
  have G0 := Lib.hid (Gw.start w rd v fi li)
  have CV := Lib.hid (irvval_any v l rd fi li _ (h.below G0.out.bel) hl hsz)
  have CU := Lib.hid (fun W => upTo_any off 30 W)
  have H := Lib.hid h
  obtain ⟨a, c, rfl, _⟩ := h
  clear hsz
  by_cases hv : rvok rd l fi li
  case neg =>
    rw [decide_eq_false hv] at CV
    refine rput_no (fun k => hv k.1) ?_
    clear hv CU
    go_enter Try.func20, Try.ntmps20
    go_wp2_with fail
    generalize (w.alloc (.cells #[.int .i64 rd, .slice a l.length c, .int .i64 fi, .int .i64 li] 24)).alloc (.cells #[.int .i64 0, .slice none 0 0, .int .i64 0, .int .i64 0] 24) = W0 at *
    refine CV.out.mono ?_
    rintro e w1 ⟨rfl, hb1⟩
    have G1 := Lib.hid (G0.out.below hb1)
    have FIN := Lib.hid (G1.out.fin (OwnPc.nil w1 (w.heap.size + 2)) (by omega) (.int .i64 0) (.int .i64 0) (.int .i64 0))
    have r0 := G1.out.r 0
    have r1 := G1.out.r 1
    have r2 := G1.out.r 2
    have r3 := G1.out.r 3
    have t0 := G1.out.rt 0
    have t1 := G1.out.rt 1
    have t2 := G1.out.rt 2
    have t3 := G1.out.rt 3
    clear hb1
    go_wp2_with fail
    obtain ⟨BF, FF, _⟩ := FIN.out
    have f0 := FF 0
    have f1 := FF 1
    have f2 := FF 2
    have f3 := FF 3
    refine bodyPost_ret (v := .tuple #[.agg #[.int .i64 0, .slice none 0 0, .int .i64 0, .int .i64 0], .int .i64 4]) ?hr rfl ?_
    case hr => rw [results_cell_tmp rfl]; go_simp
    exact ⟨rfl, BF⟩
  rw [decide_eq_true hv] at CV
  by_cases hn : 0 ≤ off ∧ off ≤ 30
  case neg =>
    rw [decide_eq_false hn] at CU
    refine rput_no (fun k => hn k.2.1) ?_
    clear hv
    go_enter Try.func20, Try.ntmps20
    go_wp2_with fail
    generalize (w.alloc (.cells #[.int .i64 rd, .slice a l.length c, .int .i64 fi, .int .i64 li] 24)).alloc (.cells #[.int .i64 0, .slice none 0 0, .int .i64 0, .int .i64 0] 24) = W0 at *
    refine CV.out.mono ?_
    rintro e w1 ⟨rfl, hb1⟩
    have G1 := Lib.hid (G0.out.below hb1)
    have FIN := Lib.hid (G1.out.fin (OwnPc.nil w1 (w.heap.size + 2)) (by omega) (.int .i64 0) (.int .i64 0) (.int .i64 0))
    have r0 := G1.out.r 0
    have r1 := G1.out.r 1
    have r2 := G1.out.r 2
    have r3 := G1.out.r 3
    have t0 := G1.out.rt 0
    have t1 := G1.out.rt 1
    have t2 := G1.out.rt 2
    have t3 := G1.out.rt 3
    clear hb1
    go_wp2_with fail
    refine (CU.out _).mono ?_
    rintro e w9 ⟨rfl, rfl⟩
    go_wp2_with fail
    obtain ⟨BF, FF, _⟩ := FIN.out
    have f0 := FF 0
    have f1 := FF 1
    have f2 := FF 2
    have f3 := FF 3
    refine bodyPost_ret (v := .tuple #[.agg #[.int .i64 0, .slice none 0 0, .int .i64 0, .int .i64 0], .int .i64 4]) ?hr rfl ?_
    case hr => rw [results_cell_tmp rfl]; go_simp
    exact ⟨rfl, BF⟩
  rw [decide_eq_true hn] at CU
  by_cases hd : d.size ≤ 12
  case neg =>
    have hdd : decide ((12 : Int) < (d.size : Int)) = true := decide_eq_true (by omega)
    refine rput_no (fun k => hd k.2.2) ?_
    clear hv
    go_enter Try.func20, Try.ntmps20
    go_wp2_with fail
    generalize (w.alloc (.cells #[.int .i64 rd, .slice a l.length c, .int .i64 fi, .int .i64 li] 24)).alloc (.cells #[.int .i64 0, .slice none 0 0, .int .i64 0, .int .i64 0] 24) = W0 at *
    refine CV.out.mono ?_
    rintro e w1 ⟨rfl, hb1⟩
    have G1 := Lib.hid (G0.out.below hb1)
    have FIN := Lib.hid (G1.out.fin (OwnPc.nil w1 (w.heap.size + 2)) (by omega) (.int .i64 0) (.int .i64 0) (.int .i64 0))
    have r0 := G1.out.r 0
    have r1 := G1.out.r 1
    have r2 := G1.out.r 2
    have r3 := G1.out.r 3
    have t0 := G1.out.rt 0
    have t1 := G1.out.rt 1
    have t2 := G1.out.rt 2
    have t3 := G1.out.rt 3
    clear hb1
    go_wp2_with fail
    refine (CU.out _).mono ?_
    rintro e w9 ⟨rfl, rfl⟩
    go_wp2_with fail
    obtain ⟨BF, FF, _⟩ := FIN.out
    have f0 := FF 0
    have f1 := FF 1
    have f2 := FF 2
    have f3 := FF 3
    refine bodyPost_ret (v := .tuple #[.agg #[.int .i64 0, .slice none 0 0, .int .i64 0, .int .i64 0], .int .i64 4]) ?hr rfl ?_
    case hr => rw [results_cell_tmp rfl]; go_simp
    exact ⟨rfl, BF⟩
  have hdd : decide ((12 : Int) < (d.size : Int)) = false := decide_eq_false (by omega)
  refine rput_yes ⟨hv, hn, hd⟩ ?_
  obtain ⟨o, ho⟩ : ∃ o : Nat, off = (o : Int) := ⟨off.toNat, by omega⟩
  subst ho
  rw [Int.toNat_natCast]
  obtain ⟨hib, hl30⟩ := rvok_sz hv
  have hrd : 0 ≤ rd ∧ rd ≤ 30 := by have := hv.1; have := hv.2.1; omega
  have KB := Lib.hid (fun W => bytesat_any (o : Int) d W (by omega))
  have KW := Lib.hid (fun W (hW : Below w.heap.size w W) => waiting_any (.slice a l.length c) l rd fi li W (H.out.below hW) (by omega) (IB'.isz hib))
  have KP := Lib.hid (fun W V (hW : Below w.heap.size w W) (hy : Byt W V d) => putcode_any (.slice a l.length c) V l rd fi li o d fin W (H.out.below hW) hy hv (by omega) (by omega))
  have KX := Lib.hid (fun W B s (hs : Ivl W B s l) => withw_any B (.slice a l.length c) s l rd fi li W hs (by omega) ⟨_, _, _, rfl⟩)
  have KE := Lib.hid (fun W g1 o1 c1 => iend_any (o : Int) (some ⟨g1, o1, none⟩) d.size c1 W (by omega) (by omega))
  have KF := Lib.hid (fun W V (hy : Byt W V d) => ifrom_any (o : Int) rd V d W hy (by omega) (by omega) (by omega))
  have HISP := Lib.hid (fun hc : ¬ pconf (pat l) o d => ladd_isp (o := o) (d := d) hv.2.2.1 hc)
  have HIB : Hid (0 < (cut ((o : Int), d) rd).2.size → IB (cut ((o : Int), d) rd)) := Lib.hid (fun h0 => by
    have e1 : (cut ((o : Int), d) rd).1 = (o : Int) + (skp ((o : Int), d) rd : Int) := rfl
    have e2 := cutq_size ((o : Int), d) rd
    have e3 := skp_le ((o : Int), d) rd
    refine ⟨by rw [e1]; omega, by rw [e1, e2]; simp only at e2 e3 ⊢; omega, h0⟩)
  obtain ⟨⟨qx, qd⟩, hq⟩ : ∃ q, cut ((o : Int), d) rd = q := ⟨_, rfl⟩
  rw [hq] at KF HISP HIB
  have hibb : ∀ p ∈ l, IB p := fun p hp => by
    have := hib p hp
    unfold IB' at this
    exact ⟨this.1, by omega, this.2.2⟩
  have KA := Lib.hid (fun W B s U (hs : Ivl W B s l) (hB : B ≤ W.heap.size) (hu : Byt W U qd) => ladd_any B s U l qx qd W hs hB (by omega) hibb hu HIB.out)
  obtain ⟨R, hR⟩ : ∃ R, ladd l (qx, qd) = R := ⟨_, rfl⟩
  rw [hR] at KA HISP
  have HRL : Hid (pcode rd l fi li o d fin = 0 → R.length ≤ 1000) := Lib.hid (fun h0 => by
    obtain ⟨c1, c2, c3⟩ := pcode_zero.1 h0
    have hput : Put rd l fi li o d fin R (if fin then (o : Int) + (d.size : Int) else fi) := ⟨HISP.out c3, rfl⟩
    have := rvok_len (put_ok hv h0 hput)
    omega)
  obtain ⟨q, hqq⟩ : ∃ q, pcode rd l fi li o d fin = q := ⟨_, rfl⟩
  rw [hqq] at KP HRL
  have HQ := Lib.hid hqq
  have HPUT : Hid (∀ z, q = 0 → z = (if fin then (o : Int) + (d.size : Int) else fi) → Put rd l fi li o d fin R z) := Lib.hid (fun z h0 hz => ⟨HISP.out (pcode_zero.1 (hqq.trans h0)).2.2, hz⟩)
  obtain ⟨x, hx⟩ : ∃ x, (o : Int) = x := ⟨_, rfl⟩
  obtain ⟨en, hen⟩ : ∃ en, x + (d.size : Int) = en := ⟨_, rfl⟩
  rw [hx] at KB KE KF KP HPUT hn CU ⊢
  rw [hen] at KE HPUT
  have HX := Lib.hid hx
  clear hq hR hib hibb HISP HIB hv hx hen hqq
  go_enter Try.func20, Try.ntmps20
  go_wp2_with fail
  generalize (w.alloc (.cells #[.int .i64 rd, .slice a l.length c, .int .i64 fi, .int .i64 li] 24)).alloc (.cells #[.int .i64 0, .slice none 0 0, .int .i64 0, .int .i64 0] 24) = W0 at *
  refine CV.out.mono ?_
  rintro e w1 ⟨rfl, hb1⟩
  have G1 := Lib.hid (G0.out.below hb1)
  clear hb1
  go_wp2_with fail
  refine (CU.out _).mono ?_
  rintro e w9 ⟨rfl, rfl⟩
  go_upto_region 3 with fail
  go_cut [10, 11] (fun pv sv wx => ∃ (b : Nat) (V s : Value), pv = .pointer (some ⟨b, 0, none⟩) ∧ sv = s ∧ Hid (Wp w wx rd (.slice a l.length c) fi li x b V s d l))
  case first =>
    have GD := Lib.hid (G1.out.below (Below.refl _ _).drew)
    have BZ : Hid (Below w1.heap.size w1 (w1.alloc (.cells #[.int .i64 0, .slice none 0 0] 55)).drew) := Lib.hid (((Below.refl _ _).alloc (Nat.le_refl _) _).drew)
    have GDa := Lib.hid (G1.out.below BZ.out)
    have Z0a : Hid (Zv (w1.alloc (.cells #[.int .i64 0, .slice none 0 0] 55)).drew w1.heap.size (.int .i64 0) (.slice none 0 0)) := Lib.hid ((Zv.new w1 (.int .i64 0) (.slice none 0 0)).below (Below.refl _ _).drew)
    have hlo := G1.out.hi
    have k0 := GD.out.sc
    have k0a := GDa.out.sc
    go_region_held3 (fun W => W.cell? ⟨w.heap.size, 0, none⟩ = some (.int .i64 rd) ∧ W.cell? ⟨w.heap.size, 1, none⟩ = some (.slice a l.length c) ∧ W.cell? ⟨w.heap.size, 2, none⟩ = some (.int .i64 fi) ∧ W.cell? ⟨w.heap.size, 3, none⟩ = some (.int .i64 li)) (with_reducible first | assumption | exact k0 | exact k0a | exact k1 | exact k1a | exact k2 | exact k2a | exact kE) ((first
      | (go_at_call 38; (with_reducible refine (KB.out (w1.drew)).mono ?_); rintro e u1 ⟨V1, rfl, hb1, hy1⟩; have Y1 := Lib.hid hy1; obtain ⟨g1, o1, c1, rfl, hc1⟩ := hy1.shape; clear hy1; have D1 := Lib.hid (GD.out.below hb1); have k1 := D1.out.sc; have hlo1 := D1.out.hi; have B1a : Hid (Below u1.heap.size u1 (u1.alloc (.cells #[.int .i64 0, .slice none 0 0] 55))) := Lib.hid ((Below.refl _ _).alloc (Nat.le_refl _) _); have D1a := Lib.hid (D1.out.below B1a.out); have k1a := D1a.out.sc; have Y1a := Lib.hid (Y1.out.below B1a.out); have Z1a := Lib.hid (Zv.new u1 (.int .i64 0) (.slice none 0 0)))
      | (go_at_call 38; (with_reducible refine (KB.out ((w1.alloc (.cells #[.int .i64 0, .slice none 0 0] 55)).drew)).mono ?_); rintro e u1 ⟨V1, rfl, hb1, hy1⟩; have Y1 := Lib.hid hy1; obtain ⟨g1, o1, c1, rfl, hc1⟩ := hy1.shape; clear hy1; have D1 := Lib.hid (GDa.out.below hb1); have k1 := D1.out.sc; have hlo1 := D1.out.hi; have Zc := Lib.hid (Z0a.out.below hb1))
      | (go_at_call 39; have zq := Zc.out.lt; clear zq; (with_reducible refine (KW.out u1 D1.out.bel).mono ?_); rintro e u2 ⟨s2, rfl, hb2, hi2⟩; have I2 := Lib.hid hi2; obtain ⟨g2, c2, rfl, _, hg2a, hg2b⟩ := hi2.sl; clear hi2; have D2 := Lib.hid (D1.out.below hb2); have k2 := D2.out.sc; have Y2 := Lib.hid (Y1.out.below hb2); have Zn := Lib.hid (Zc.out.below hb2); have z0 := Zn.out.c.c0; have z1 := Zn.out.c.c1; have f0 := Zn.out.t 0; have f1 := Zn.out.t 1; have FW := Lib.hid (Wp.stored (x := x) D2.out Zn.out Y2.out I2.out (by have := Zc.out.lt; have := hlo; have := hlo1; simp at *; omega) Zc.out.lt (by have := hlo; have := hlo1; omega)); have kE := FW.out.g.sc)
      | (go_at_call 39; (with_reducible refine (KW.out (u1.alloc (.cells #[.int .i64 0, .slice none 0 0] 55)) D1a.out.bel).mono ?_); rintro e u2 ⟨s2, rfl, hb2, hi2⟩; have I2 := Lib.hid hi2; obtain ⟨g2, c2, rfl, _, hg2a, hg2b⟩ := hi2.sl; clear hi2; have D2 := Lib.hid (D1a.out.below hb2); have k2 := D2.out.sc; have Y2 := Lib.hid (Y1a.out.below hb2); have Zn := Lib.hid (Z1a.out.below hb2); have z0 := Zn.out.c.c0; have z1 := Zn.out.c.c1; have f0 := Zn.out.t 0; have f1 := Zn.out.t 1; have FW := Lib.hid (Wp.stored (x := x) D2.out Zn.out Y2.out I2.out (by have := Z1a.out.lt; have := hlo; have := hlo1; simp at *; omega) Z1a.out.lt (by have := hlo; have := hlo1; omega)); have kE := FW.out.g.sc)
      | (go_at_call 39; (with_reducible refine (KW.out u1 D1.out.bel).mono ?_); rintro e u2 ⟨s2, rfl, hb2, hi2⟩; have I2 := Lib.hid hi2; obtain ⟨g2, c2, rfl, _, hg2a, hg2b⟩ := hi2.sl; clear hi2; have D2 := Lib.hid (D1.out.below hb2); have k2 := D2.out.sc; have Y2 := Lib.hid (Y1.out.below hb2); have B2z : Hid (Below u2.heap.size u2 (u2.alloc (.cells #[.int .i64 0, .slice none 0 0] 55))) := Lib.hid ((Below.refl _ _).alloc (Nat.le_refl _) _); have k2a := (D2.out.below B2z.out).sc; have B2f : Hid (Below u2.heap.size u2 (u2.alloc (.cells #[.int .i64 x, (.slice (some ⟨g1, o1, none⟩) d.size c1)] 55))) := Lib.hid ((Below.refl _ _).alloc (Nat.le_refl _) _); have FW : Hid (Wp w (u2.alloc (.cells #[.int .i64 x, (.slice (some ⟨g1, o1, none⟩) d.size c1)] 55)) rd (.slice a l.length c) fi li x u2.heap.size (.slice (some ⟨g1, o1, none⟩) d.size c1) (.slice (some ⟨g2, 0, none⟩) l.length c2) d l) := Lib.hid ⟨D2.out.below B2f.out, Cel.new u2 _ _ _, Y2.out.below B2f.out, (I2.out.below B2f.out).lower (by have := hlo1; omega), D2.out.hi⟩; have kE := FW.out.g.sc)))
    all_goals
      go_wp2_with fail
      go_meet
      exact ⟨_, _, _, rfl, rfl, FW⟩
  case rest =>
    obtain ⟨b, V, s, rfl, rfl, WP⟩ := hcut
    obtain ⟨g1, o1, c1, rfl, hc1⟩ := WP.out.y.shape
    obtain ⟨g2, c2, rfl, _, _, _⟩ := WP.out.i.sl
    have q0 := WP.out.g.f 0
    have q1 := WP.out.g.f 1
    have q2 := WP.out.g.f 2
    have q3 := WP.out.g.f 3
    have p0 := WP.out.c.c0
    have p1 := WP.out.c.c1
    go_wp2_with fail
    refine (KP.out _ _ WP.out.g.bel WP.out.y).mono ?_
    rintro e w4 ⟨rfl, hb4⟩
    have WQ := Lib.hid (WP.out.below hb4)
    clear hb4 q0 q1 q2 q3 p0 p1 WP
    have q0 := WQ.out.g.f 0
    have q1 := WQ.out.g.f 1
    have q2 := WQ.out.g.f 2
    have q3 := WQ.out.g.f 3
    have p0 := WQ.out.c.c0
    have p1 := WQ.out.c.c1
    by_cases hq0 : q = 0
    · have hqb : (q != 0) = false := by rw [hq0]; rfl
      have HC0 : Hid (pcode rd l fi li o d fin = 0) := Lib.hid (HQ.out.trans hq0)
      have hRL := HRL.out hq0
      cases fin
      · have HPZ : Hid (Put rd l fi li o d false R fi) := Lib.hid (HPUT.out _ hq0 rfl)
        have KY := Lib.hid (fun W fx B s (hs : Ivl W B s R) => withw_any B (.slice a l.length c) s R rd fx li W hs (by omega) ⟨_, _, _, rfl⟩)
        clear hq0 HPUT HRL
        go_upto_region 9 with fail
        clear q0 q1 q2 q3 p0 p1
        have WD := Lib.hid (WQ.out.below (Below.refl _ _).drew)
        have k0 := WD.out.sc
        go_region_held3 (fun W => W.cell? ⟨w.heap.size, 0, none⟩ = some (.int .i64 rd) ∧ W.cell? ⟨w.heap.size, 1, none⟩ = some (.slice a l.length c) ∧ W.cell? ⟨w.heap.size, 2, none⟩ = some (.int .i64 fi) ∧ W.cell? ⟨w.heap.size, 3, none⟩ = some (.int .i64 li) ∧ W.cell? ⟨b, 0, none⟩ = some (.int .i64 x) ∧ W.cell? ⟨b, 1, none⟩ = some (.slice (some ⟨g1, o1, none⟩) d.size c1)) (with_reducible first | assumption | exact k0 | exact k1 | exact k2 | exact k3 | exact k4) ((first
          | (go_at_call 44; (with_reducible refine (KF.out _ _ WD.out.y).mono ?_); rintro e w5 ⟨v5, rfl, hb5, hy5⟩; have W5 := Lib.hid (WD.out.below hb5); have k1 := W5.out.sc; have Y5 := Lib.hid hy5; clear hy5)
          | (go_at_call 43; (with_reducible refine (KA.out _ _ _ _ W5.out.i (Nat.le_trans (Nat.succ_le_of_lt W5.out.hi) (Nat.le_of_lt W5.out.c.lt)) Y5.out).mono ?_); rintro e w6 ⟨v6, rfl, hb6, hi6⟩; have W6 := Lib.hid (W5.out.below hb6); have k2 := W6.out.sc; have I6 := Lib.hid hi6; clear hi6)
          | (go_at_call 41; (with_reducible refine (KY.out _ _ _ _ I6.out).mono ?_); rintro e w7 ⟨u, rfl, hb7, ho7, hn7⟩; have W7 := Lib.hid (W6.out.below hb7); have k3 := W7.out.sc; obtain ⟨g5, c5, rfl, _⟩ := ho7.sl hn7; have k4 := W7.out.sc2 (.int .i64 rd) (.slice (some ⟨g5, 0, none⟩) R.length c5) (.int .i64 fi) (.int .i64 li); have FIN := Lib.hid (W7.out.g.fin ho7 W6.out.g.hi (.int .i64 rd) (.int .i64 fi) (.int .i64 li)); have r0 := W7.out.g.r 0; have r1 := W7.out.g.r 1; have r2 := W7.out.g.r 2; have r3 := W7.out.g.r 3; have t0 := W7.out.g.rt 0; have t1 := W7.out.g.rt 1; have t2 := W7.out.g.rt 2; have t3 := W7.out.g.rt 3; clear ho7 hn7)))
        all_goals
          obtain ⟨BF, FF, OF⟩ := FIN.out
          have f0 := FF 0
          have f1 := FF 1
          have f2 := FF 2
          have f3 := FF 3
          have OF := Lib.hid OF
          clear FF FIN
          go_wp2_with fail
          refine bodyPost_ret (v := .tuple #[.agg #[.int .i64 rd, .slice (some ⟨g5, 0, none⟩) R.length c5, .int .i64 fi, .int .i64 li], .int .i64 0]) ?hr rfl ?_
          case hr => rw [results_cell_tmp rfl]; go_simp
          exact ⟨_, R, fi, 0, rfl, HC0.out.symm, BF, OF.out, by simp, fun _ => HPZ.out, fun hh => absurd rfl hh⟩
      · have HPZ : Hid (Put rd l fi li o d true R en) := Lib.hid (HPUT.out _ hq0 rfl)
        have KY := Lib.hid (fun W fx B s (hs : Ivl W B s R) => withw_any B (.slice a l.length c) s R rd fx li W hs (by omega) ⟨_, _, _, rfl⟩)
        clear hq0 HPUT HRL
        go_wp2_with fail
        refine (KE.out _ _ _ _).mono ?_
        rintro e w8 ⟨rfl, hb8⟩
        have WR := Lib.hid (WQ.out.below hb8)
        have y2 := WR.out.g.f 2
        have z2 := WR.out.g.t 2
        have WS := Lib.hid (WR.out.set2 en)
        clear hb8 q0 q1 q2 q3 p0 p1 WQ
        go_upto_region 9 with fail
        generalize w8.setCell ⟨w.heap.size, 2, none⟩ (.int .i64 en) = w10 at *
        clear y2 z2
        have WQ := WS
        have WD := Lib.hid (WQ.out.below (Below.refl _ _).drew)
        have k0 := WD.out.sc
        go_region_held3 (fun W => W.cell? ⟨w.heap.size, 0, none⟩ = some (.int .i64 rd) ∧ W.cell? ⟨w.heap.size, 1, none⟩ = some (.slice a l.length c) ∧ W.cell? ⟨w.heap.size, 2, none⟩ = some (.int .i64 en) ∧ W.cell? ⟨w.heap.size, 3, none⟩ = some (.int .i64 li) ∧ W.cell? ⟨b, 0, none⟩ = some (.int .i64 x) ∧ W.cell? ⟨b, 1, none⟩ = some (.slice (some ⟨g1, o1, none⟩) d.size c1)) (with_reducible first | assumption | exact k0 | exact k1 | exact k2 | exact k3 | exact k4) ((first
          | (go_at_call 44; (with_reducible refine (KF.out _ _ WD.out.y).mono ?_); rintro e w5 ⟨v5, rfl, hb5, hy5⟩; have W5 := Lib.hid (WD.out.below hb5); have k1 := W5.out.sc; have Y5 := Lib.hid hy5; clear hy5)
          | (go_at_call 43; (with_reducible refine (KA.out _ _ _ _ W5.out.i (Nat.le_trans (Nat.succ_le_of_lt W5.out.hi) (Nat.le_of_lt W5.out.c.lt)) Y5.out).mono ?_); rintro e w6 ⟨v6, rfl, hb6, hi6⟩; have W6 := Lib.hid (W5.out.below hb6); have k2 := W6.out.sc; have I6 := Lib.hid hi6; clear hi6)
          | (go_at_call 41; (with_reducible refine (KY.out _ _ _ _ I6.out).mono ?_); rintro e w7 ⟨u, rfl, hb7, ho7, hn7⟩; have W7 := Lib.hid (W6.out.below hb7); have k3 := W7.out.sc; obtain ⟨g5, c5, rfl, _⟩ := ho7.sl hn7; have k4 := W7.out.sc2 (.int .i64 rd) (.slice (some ⟨g5, 0, none⟩) R.length c5) (.int .i64 en) (.int .i64 li); have FIN := Lib.hid (W7.out.g.fin ho7 W6.out.g.hi (.int .i64 rd) (.int .i64 en) (.int .i64 li)); have r0 := W7.out.g.r 0; have r1 := W7.out.g.r 1; have r2 := W7.out.g.r 2; have r3 := W7.out.g.r 3; have t0 := W7.out.g.rt 0; have t1 := W7.out.g.rt 1; have t2 := W7.out.g.rt 2; have t3 := W7.out.g.rt 3; clear ho7 hn7)))
        all_goals
          obtain ⟨BF, FF, OF⟩ := FIN.out
          have f0 := FF 0
          have f1 := FF 1
          have f2 := FF 2
          have f3 := FF 3
          have OF := Lib.hid OF
          clear FF FIN
          go_wp2_with fail
          refine bodyPost_ret (v := .tuple #[.agg #[.int .i64 rd, .slice (some ⟨g5, 0, none⟩) R.length c5, .int .i64 en, .int .i64 li], .int .i64 0]) ?hr rfl ?_
          case hr => rw [results_cell_tmp rfl]; go_simp
          exact ⟨_, R, en, 0, rfl, HC0.out.symm, BF, OF.out, by simp, fun _ => HPZ.out, fun hh => absurd rfl hh⟩
    · have hqb : (q != 0) = true := by rw [bne_iff_ne]; exact hq0
      have HC0 : Hid (q = pcode rd l fi li o d fin) := Lib.hid HQ.out.symm
      have HNZ := Lib.hid hq0
      clear hq0 HPUT HRL
      go_wp2_with fail
      refine (KX.out _ _ _ WQ.out.i).mono ?_
      rintro e w7 ⟨u, rfl, hb7, ho7, hn7⟩
      have W7 := Lib.hid (WQ.out.below hb7)
      obtain ⟨g5, c5, rfl, _⟩ := ho7.sl hn7
      have FIN := Lib.hid (W7.out.g.fin ho7 WQ.out.g.hi (.int .i64 rd) (.int .i64 fi) (.int .i64 li))
      have r0 := W7.out.g.r 0
      have t0 := W7.out.g.rt 0
      have r1 := W7.out.g.r 1
      have t1 := W7.out.g.rt 1
      have r2 := W7.out.g.r 2
      have t2 := W7.out.g.rt 2
      have r3 := W7.out.g.r 3
      have t3 := W7.out.g.rt 3
      clear ho7 hn7 hb7 q0 q1 q2 q3 p0 p1
      go_wp2_with fail
      obtain ⟨BF, FF, OF⟩ := FIN.out
      have f0 := FF 0
      have f1 := FF 1
      have f2 := FF 2
      have f3 := FF 3
      have OF := Lib.hid OF
      clear FF FIN
      refine bodyPost_ret (v := .tuple #[.agg #[.int .i64 rd, .slice (some ⟨g5, 0, none⟩) l.length c5, .int .i64 fi, .int .i64 li], .int .i64 q]) ?hr rfl ?_
      case hr => rw [results_cell_tmp rfl]; go_simp
      exact ⟨_, l, fi, q, rfl, HC0.out, BF, OF.out, by simp, fun hh => absurd hh HNZ.out, fun _ => ⟨rfl, rfl⟩⟩
end Go.Proofs.Ythdhjjbgegcncaa
