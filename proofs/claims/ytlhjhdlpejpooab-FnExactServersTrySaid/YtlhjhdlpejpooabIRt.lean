/- The program's RegisterTick. -/
import Derived.Test.YtlhjhdlpejpooabIRv
import Derived.Test.YtlhjhdlpejpooabITSort
import Derived.Test.YtlhjhdlpejpooabHpOf
import Derived.Test.YtlhjhdlpejpooabSTickv
namespace Go.Proofs.Ytlhjhdlpejpooab
open Go.RowKit
set_option linter.unusedVariables false
set_option linter.unusedSimpArgs false

theorem sorted_tick {n : Int} {l s : List Tic} (hl : l.Pairwise TL) (hp : s.Perm (tick n l)) (hs : s.Pairwise (fun x y => ¬ TL y x)) : s = tick n l := by
  have h0 : (tick n l).Pairwise TL := hl.filter _
  have nd : (tick n l).Nodup := h0.imp (fun {a b} (h : TL a b) (e : a = b) => by subst e; exact TL.irr a h)
  have nd' : s.Nodup := hp.nodup_iff.2 nd
  exact tick_sorted hl hp ((hs.and nd').imp (fun h => TL.not_iff h.1 (Ne.symm h.2)))
theorem tick_perm {n : Int} {l l1 l2 : List Tic} (h1 : l1.Perm l) (h2 : l2.Perm (l1.filter fun x => decide (n - 10 ≤ x.2))) : l2.Perm (tick n l) :=
  h2.trans (h1.filter _)
theorem Heap.slice {B : Nat} {W : World} {b : Nat} {l : List Tic} (h : Heap B W b l) : ∃ g c, Hs B W b (.slice (some ⟨g, 0, none⟩) l.length c) l := h.2

/-- The parameter's and the result's variables of a register's function. -/
theorem two_regs (w : World) (n : Int) (s : Value) :
    Hid (Below w.heap.size w ((w.alloc (.cells #[.int .i64 n, s] 28)).alloc (.cells #[.int .i64 0, .slice none 0 0] 28))) ∧
    Hid (RgV ((w.alloc (.cells #[.int .i64 n, s] 28)).alloc (.cells #[.int .i64 0, .slice none 0 0] 28)) w.heap.size n s) ∧
    Hid (RgV ((w.alloc (.cells #[.int .i64 n, s] 28)).alloc (.cells #[.int .i64 0, .slice none 0 0] 28)) (w.heap.size + 1) 0 (.slice none 0 0)) ∧
    Hid (Soft ((w.alloc (.cells #[.int .i64 n, s] 28)).alloc (.cells #[.int .i64 0, .slice none 0 0] 28)) (w.heap.size + 1)) := by
  have e : (w.alloc (.cells #[.int .i64 n, s] 28)).heap.size = w.heap.size + 1 := by simp
  refine ⟨Lib.hid (((Below.refl _ _).alloc (Nat.le_refl _) _).alloc (by simp) _), Lib.hid ((RgV.new w n _ _).below ((Below.refl _ _).alloc (Nat.le_refl _) _)), Lib.hid ?_, Lib.hid ?_⟩
  · rw [← e]; exact RgV.new _ 0 _ _
  · rw [← e]; exact Soft.new _ _ _

set_option maxRecDepth 100000 in
set_option maxHeartbeats 4000000 in
theorem itick_any (n0 now : Int) (v : Value) (l : List Tic) (w : World) (hs : Tics w v l) (hl : l.length ≤ 1048576) : Calls Try.prog 13 #[.agg #[.int .i64 n0, v], .int .i64 now] w (GotRgB w (rtickv (n0, l) now)) := by
  have HT := Lib.hid hs
  obtain ⟨a, c, rfl, hc⟩ := hs
  clear hc
  obtain ⟨U1, P1, Z1, F1⟩ := two_regs w n0 (.slice a l.length c)
  have hZb : Hid (w.heap.size < w.heap.size + 1) := Lib.hid (by omega)
  go_enter Try.func13, Try.ntmps13
  go_wp2_with fail
  generalize ((w.alloc (.cells #[.int .i64 n0, .slice a l.length c] 28)).alloc (.cells #[.int .i64 0, .slice none 0 0] 28)) = W1 at U1 P1 Z1 F1 ⊢
  generalize w.heap.size + 1 = rb at Z1 F1 hZb ⊢
  refine (ireg_any n0 _ l _ (HT.out.below U1.out) hl).mono ?_
  rintro e w2 ⟨rfl, hb2⟩
  have P2 := Lib.hid (P1.out.below hb2)
  have Z2 := Lib.hid (Z1.out.below hb2)
  have F2 := Lib.hid (F1.out.below hb2 Z1.out.lt)
  have U2 := Lib.hid (U1.out.trans (hb2.mono U1.out.size))
  clear hb2 P1 Z1 F1 U1
  have hrw : Hid (w.heap.size ≤ rb) := Lib.hid (by have := hZb.out; omega)
  obtain ⟨p0, p1⟩ := P2.out
  obtain ⟨z0, z1⟩ := Z2.out
  have f0 := F2.out 0
  have f1 := F2.out 1
  by_cases k1 : regok (n0, l)
  · rw [decide_eq_true k1]
    have hpw : Hid (l.Pairwise TL) := Lib.hid k1.2.2.2
    have hl8 : l.length ≤ 8 := k1.2.1
    have hn0 : 0 ≤ n0 := k1.1.1
    by_cases k2 : n0 ≤ now ∧ now ≤ 999
    · have HR := Lib.hid (rtickv_yes (r := (n0, l)) (n := now) ⟨k1, k2⟩)
      obtain ⟨k2, k3⟩ := k2
      have d1 : decide (now < n0) = false := decide_eq_false (by omega)
      have d2 : decide ((999 : Int) < now) = false := decide_eq_false (by omega)
      have d1' : ¬ now < n0 := by omega
      have d2' : ¬ (999 : Int) < now := by omega
      have hw1 : IntKind.i64.wrap (now - 10) = now - 10 := IntWalk.i64_in _ (by omega)
      clear k1 z0 z1 f0 f1
      go_wp2_with fail
      refine (heapof_any _ l w2 (HT.out.below U2.out) (by omega)).mono ?_
      rintro e w3 ⟨b, rfl, hb3, l1, hp1, H3⟩
      have B3 := Lib.hid (U2.out.trans (hb3.mono U2.out.size))
      have Z3 := Lib.hid (Z2.out.below hb3)
      have F3 := Lib.hid (F2.out.below hb3 Z2.out.lt)
      have HP1 := Lib.hid hp1
      have HH3 := Lib.hid H3
      have hBs : Hid (w2.heap.size ≤ w3.heap.size) := Lib.hid hb3.size
      have hrbs : Hid (rb < w2.heap.size) := Lib.hid Z2.out.lt
      clear hb3 hp1 H3 p0 p1
      go_wp2_with fail
      refine (forget_any b l1 (now - 10) w2.heap.size w3 HH3.out (by rw [HP1.out.length_eq]; omega)).mono ?_
      rintro e w4 ⟨rfl, hb4, l2, hp2, H4⟩
      have HP2 := Lib.hid (tick_perm HP1.out hp2)
      obtain ⟨g, cg, HS4⟩ := H4.slice
      have hl2 : l2.length ≤ 8 := by rw [HP2.out.length_eq]; exact Nat.le_trans (List.length_filter_le _ _) hl8
      have B4 := Lib.hid (B3.out.trans (hb4.mono U2.out.size))
      have Z4 : Hid (RgV w4 rb 0 (.slice none 0 0)) := Lib.hid ⟨(hb4.cell (p := ⟨rb, 0, none⟩) hrbs.out).trans Z3.out.c0, (hb4.cell (p := ⟨rb, 1, none⟩) hrbs.out).trans Z3.out.c1⟩
      have F4 : Hid (Soft w4 rb) := Lib.hid fun i => (hb4.frozen (p := ⟨rb, i, none⟩) hrbs.out).trans (F3.out i)
      have e0 := HS4.cell
      have HO := Lib.hid (tsort_any g cg l2 w4 w2.heap.size HS4.own (by have := hBs.out; have := hb4.size; omega) (by omega))
      clear hb4 hp2 H4 HS4 Z3 F3 HH3 HP1
      go_wp2_with fail
      refine HO.out.mono ?_
      rintro e w5 ⟨rfl, hb5, s, hps, hss, ho5⟩
      have HSE : Hid (s = tick now l) := Lib.hid (sorted_tick hpw.out (hps.trans HP2.out) hss)
      have hls : s.length = l2.length := hps.length_eq
      have B5 := Lib.hid (B4.out.trans (hb5.mono U2.out.size))
      have Z5 : Hid (RgV w5 rb 0 (.slice none 0 0)) := Lib.hid ⟨(hb5.cell (p := ⟨rb, 0, none⟩) hrbs.out).trans Z4.out.c0, (hb5.cell (p := ⟨rb, 1, none⟩) hrbs.out).trans Z4.out.c1⟩
      have F5 : Hid (Soft w5 rb) := Lib.hid fun i => (hb5.frozen (p := ⟨rb, i, none⟩) hrbs.out).trans (F4.out i)
      have hO2 := Lib.hid (OwnTc.lower ho5 U2.out.size)
      have hne : Hid ((Value.slice (some ⟨g, 0, none⟩) l2.length cg).ownBlock ≠ some rb) := Lib.hid fun e => by have := (World.ownsRow.lt ho5 rb e).1; have := hrbs.out; omega
      clear hb5 hps hss ho5 Z4 F4 HO e0
      obtain ⟨z0, z1⟩ := Z5.out
      have f0 := F5.out 0
      have f1 := F5.out 1
      have KE := Lib.hid (reg_end (m := now) B5.out Z5.out hO2.out hne.out hrw.out)
      go_wp2_with fail
      generalize (w5.setCell ⟨rb, 0, none⟩ (.int .i64 now)).setCell ⟨rb, 1, none⟩ (.slice (some ⟨g, 0, none⟩) l2.length cg) = WF at KE ⊢
      obtain ⟨k0, k1⟩ := KE.out.1
      refine bodyPost_ret (v := .tuple #[.agg #[.int .i64 now, .slice (some ⟨g, 0, none⟩) l2.length cg], .bool true]) ?hr rfl ?_
      case hr => rw [results_cell_tmp rfl]; go_simp
      exact ⟨_, by rw [HR.out], by rw [HR.out]; rw [← HSE.out]; exact KE.out.2.2, KE.out.2.1⟩
    · have HR := Lib.hid (rtickv_no (r := (n0, l)) (n := now) fun h => k2 h.2)
      have KE := Lib.hid (reg_end (m := 0) U2.out Z2.out (OwnTc.nil w2 w.heap.size) (by simp [Value.ownBlock]) hrw.out)
      clear k1
      by_cases k3 : now < n0
      · have d1 : decide (now < n0) = true := decide_eq_true k3
        clear k2
        go_wp2_with fail
        generalize (w2.setCell ⟨rb, 0, none⟩ (.int .i64 0)).setCell ⟨rb, 1, none⟩ (.slice none 0 0) = WF at KE ⊢
        obtain ⟨k0, k1⟩ := KE.out.1
        refine bodyPost_ret (v := .tuple #[.agg #[.int .i64 0, .slice none 0 0], .bool false]) ?hr rfl ?_
        case hr => rw [results_cell_tmp rfl]; go_simp
        exact ⟨_, by rw [HR.out], by rw [HR.out]; exact KE.out.2.2, KE.out.2.1⟩
      · have d1 : decide (now < n0) = false := decide_eq_false k3
        have k4 : (999 : Int) < now := by omega
        have d2 : decide ((999 : Int) < now) = true := decide_eq_true k4
        clear k2
        go_wp2_with fail
        generalize (w2.setCell ⟨rb, 0, none⟩ (.int .i64 0)).setCell ⟨rb, 1, none⟩ (.slice none 0 0) = WF at KE ⊢
        obtain ⟨k0, k1⟩ := KE.out.1
        refine bodyPost_ret (v := .tuple #[.agg #[.int .i64 0, .slice none 0 0], .bool false]) ?hr rfl ?_
        case hr => rw [results_cell_tmp rfl]; go_simp
        exact ⟨_, by rw [HR.out], by rw [HR.out]; exact KE.out.2.2, KE.out.2.1⟩
  · rw [decide_eq_false k1]
    have HR := Lib.hid (rtickv_no (r := (n0, l)) (n := now) fun h => k1 h.1)
    have KE := Lib.hid (reg_end (m := 0) U2.out Z2.out (OwnTc.nil w2 w.heap.size) (by simp [Value.ownBlock]) hrw.out)
    clear k1
    go_wp2_with fail
    generalize (w2.setCell ⟨rb, 0, none⟩ (.int .i64 0)).setCell ⟨rb, 1, none⟩ (.slice none 0 0) = WF at KE ⊢
    obtain ⟨k0, k1⟩ := KE.out.1
    refine bodyPost_ret (v := .tuple #[.agg #[.int .i64 0, .slice none 0 0], .bool false]) ?hr rfl ?_
    case hr => rw [results_cell_tmp rfl]; go_simp
    exact ⟨_, by rw [HR.out], by rw [HR.out]; exact KE.out.2.2, KE.out.2.1⟩

end Go.Proofs.Ytlhjhdlpejpooab
