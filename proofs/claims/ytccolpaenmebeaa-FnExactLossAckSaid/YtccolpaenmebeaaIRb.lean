/- The program's (*flight).remove, with what is lost. -/
import Derived.Test.YtccolpaenmebeaaFl
import Derived.Test.YtccolpaenmebeaaOwnI
import Derived.Deep.LoopGhost
import Derived.Deep.CutBlock
import Derived.Deep.Draws
namespace Go.Proofs.Ytccolpaenmebeaa
open Go.RowKit
open Go (Handed)
set_option linter.unusedVariables false
set_option linter.unusedSimpArgs false

def RmPostB (P : Pk → Bool) (B f : Nat) (cs0 : Cs) (w : World) (l : List Pk) (e : Ending) (w' : World) : Prop :=
  ∃ v cs, e = .returned v ∧ OwnI w' w.heap.size v ((l.filter P).map (·.1)) ∧ Fl w' B f cs (l.filter fun p => !P p) ∧ Below B w w' ∧ (∃ q, v.ownBlock = some q) ∧ (∀ c, FB f cs c → FB f cs0 c) ∧ ∀ c, c < w.heap.size → ¬ FB f cs0 c → w'.heap[c]? = w.heap[c]?

set_option maxRecDepth 100000 in
set_option maxHeartbeats 4000000 in
theorem fremB_any (P : Pk → Bool) (B f lb nb db : Nat) (cs : Cs) (l : List Pk) (w : World) (h : Fl w B f cs l) (hl : l.length ≤ 1048576) (hB : B ≤ w.heap.size)
    (KC : ∀ (W : World), Below B w W → ∀ p1 p2 p3 : Int, (p1, p2, p3) ∈ l → Calls Try.prog 55 #[.agg #[.int .i64 p1, .int .i64 p2, .int .i64 p3], .pointer (some ⟨lb, 0, none⟩), .pointer (some ⟨nb, 0, none⟩), .pointer (some ⟨db, 0, none⟩)] W fun e w' => e = .returned (.bool (P (p1, p2, p3))) ∧ Below W.heap.size W w') :
    Calls Try.prog 52 #[.pointer (some ⟨f, 0, none⟩), .func (.func 55) #[] #[.pointer (some ⟨lb, 0, none⟩), .pointer (some ⟨nb, 0, none⟩), .pointer (some ⟨db, 0, none⟩)]] w (RmPostB P B f cs w l) := by
  obtain ⟨s, t, hcs, hl2⟩ := h.head
  subst hcs
  have H1 := Fm.start h
  have HT := Lib.hid hl2
  have HKC := Lib.hid KC
  obtain ⟨u0, hu0⟩ : ∃ u, pv (hdB t) = .pointer u := ⟨_, rfl⟩
  have HU := Lib.hid hu0
  have B1 := Lib.hid ((Below.refl w.heap.size w).alloc (Nat.le_refl _) (.cells #[] 3))
  have O1 := Lib.hid (OwnI.new w.heap.size w (Nat.le_refl _))
  have F1 := Lib.hid (H1.below B1.out)
  have FS := Lib.hid (fun c (hc : FB f ([] ++ (s, pkD) :: t) c) => hc)
  have FL0 := Lib.hid (fun c (hc : FB f ((s, pkD) :: t) c) => (H1.flt hc).1)
  have K1 : Hid (∀ c, c < w.heap.size → ¬ FB f ((s, pkD) :: t) c → (w.alloc (.cells #[] 3)).heap[c]? = w.heap[c]?) := Lib.hid fun c hc _ => B1.out.block c hc
  have c0 := F1.out.c0
  have n3 := F1.out.node.c3
  simp only [List.nil_append, hdB_cons, pv_some] at c0
  rw [hu0] at n3
  have HBB := Lib.hid hB
  clear h H1 hl2 KC hu0
  go_enter Try.func52, Try.ntmps52
  go_wp2_with fail
  go_loopg [5, 6, 7] t.length (fun k lv bv nv wr => ∃ (ds ini ts : Cs) (b : Nat) (q : Pk) (u : Option Addr), nv = .pointer u ∧ bv = .pointer (some ⟨b, 0, none⟩) ∧ Hid (t = ds ++ ts ∧ k = ts.length ∧ pv (hdB ts) = .pointer u) ∧ Hid ((ini ++ [(b, q)]).map (·.2) = pkD :: (ds.map (·.2)).filter fun p => !P p) ∧
      Hid (OwnI wr w.heap.size lv (((ds.map (·.2)).filter P).map (·.1)) ∧ ∃ qb, lv.ownBlock = some qb) ∧ Hid (Fm wr B f ini b q ts) ∧ Hid (Below B w wr ∧ w.heap.size ≤ wr.heap.size) ∧ Hid (∀ c, FB f (ini ++ (b, q) :: ts) c → FB f ((s, pkD) :: t) c) ∧ Hid (∀ c, c < w.heap.size → ¬ FB f ((s, pkD) :: t) c → wr.heap[c]? = w.heap[c]?))
  case atStart => exact ⟨[], [], t, s, pkD, u0, rfl, rfl, Lib.hid ⟨rfl, rfl, HU.out⟩, Lib.hid rfl, Lib.hid ⟨O1.out, _, rfl⟩, F1, Lib.hid ⟨B1.out.mono HBB.out, B1.out.size⟩, FS, K1⟩
  case round =>
    clear F1 B1 O1 FS K1 c0 n3
    obtain ⟨ds, ini, ts, b, q, u, rfl, rfl, HK, HV, HO, HF, HB, HS, HX⟩ := hrel
    cases ts with
    | nil =>
      have hu : u = none := by have := HK.out.2.2; rw [hdB_nil, pv_none] at this; injection this with this; exact this.symm
      subst hu
      have hds : ds.map (·.2) = l := by rw [← HT.out, HK.out.1, List.append_nil]
      have hv := HV.out
      have ho := HO.out
      rw [hds] at hv ho
      have hnf := HF.out.fz 1
      obtain ⟨fv, hfv⟩ := HF.out.c1
      have HE : Hid (RmPostB P B f ((s, pkD) :: t) w l (.returned u5) (wr.setCell ⟨f, 1, none⟩ (.pointer (some ⟨b, 0, none⟩)))) := Lib.hid (by
        obtain ⟨o1, qb, o2⟩ := ho
        have hfl := FL0.out f (.inl rfl)
        refine ⟨u5, _, rfl, ?_, HF.out.done hv, HB.out.1.setCell (p := ⟨f, 1, none⟩) HF.out.lo.1 _, ⟨qb, o2⟩, HS.out, fun c hc hn => (keep_set fun e => hn (.inl e.symm)).trans (HX.out c hc hn)⟩
        exact World.ownsRow.kept o1 (Lib.grownBy_setCell wr f 1 _) (.inr (by rw [o2]; intro e; have := (World.ownsRow.lt o1 qb o2).1; have := Option.some.inj e; omega)))
      clear hds hv ho
      go_wp2_with fail
      go_ret
      exact HE.out
    | cons x ts =>
      obtain ⟨c, p1, p2, p3⟩ := x
      have hu : u = some ⟨c, 0, none⟩ := by have := HK.out.2.2; rw [hdB_cons, pv_some] at this; injection this with this; exact this.symm
      subst hu
      obtain ⟨n0, n1, n2, n3, nf⟩ := HF.out.node2
      simp only at n0 n1 n2
      have hmem : (p1, p2, p3) ∈ l := by rw [← HT.out, HK.out.1]; simp
      have KR := Lib.hid (HKC.out wr HB.out.1 p1 p2 p3 hmem)
      have HM := Lib.hid hmem
      obtain ⟨u2, hu2⟩ : ∃ u, pv (hdB ts) = .pointer u := ⟨_, rfl⟩
      have HU2 := Lib.hid hu2
      clear hmem nf n3 hu2
      go_wp2_with fail
      refine KR.out.mono ?_
      rintro e w2 ⟨rfl, hb2⟩
      have F2 := Lib.hid (HF.out.below hb2)
      have B2 := Lib.hid (HB.out.1.trans (hb2.mono (Nat.le_trans HBB.out HB.out.2)))
      have S2 := Lib.hid (Nat.le_trans HB.out.2 hb2.size)
      have O2 := Lib.hid (HO.out.1.below hb2)
      have X2 : Hid (∀ c, c < w.heap.size → ¬ FB f ((s, pkD) :: t) c → w2.heap[c]? = w.heap[c]?) := Lib.hid fun c hc hn => (hb2.block c (Nat.lt_of_lt_of_le hc HB.out.2)).trans (HX.out c hc hn)
      have OB := Lib.hid HO.out.2
      clear hb2 KR n0 n1 n2 HF HB HO HX
      cases hP : P (p1, p2, p3)
      case false =>
        have HV2 : Hid (((ini ++ [(b, q)]) ++ [(c, p1, p2, p3)]).map (·.2) = pkD :: ((ds ++ [(c, p1, p2, p3)]).map (·.2)).filter fun p => !P p) := Lib.hid (by
          rw [List.map_append, HV.out, List.map_append, List.filter_append]; simp [hP])
        have HO2 : Hid (OwnI w2 w.heap.size u5 ((((ds ++ [(c, p1, p2, p3)]).map (·.2)).filter P).map (·.1)) ∧ ∃ qb, u5.ownBlock = some qb) := Lib.hid (by
          rw [List.map_append, List.filter_append]; simp only [List.map_cons, List.map_nil, List.filter_cons, hP, List.filter_nil]; simp only [Bool.false_eq_true, if_false, List.append_nil]; exact ⟨O2.out, OB.out⟩)
        have n3 := F2.out.node2.c3
        rw [HU2.out] at n3
        have HFN := Lib.hid F2.out.next
        have HSN : Hid (∀ c', FB f ((ini ++ [(b, q)]) ++ (c, p1, p2, p3) :: ts) c' → FB f ((s, pkD) :: t) c') := Lib.hid (by
          have e : (ini ++ [(b, q)]) ++ (c, p1, p2, p3) :: ts = ini ++ (b, q) :: (c, p1, p2, p3) :: ts := by simp
          rw [e]; exact HS.out)
        clear hP
        go_wp2_with fail
        go_roundg ts.length
        case measure => have := HK.out.2.1; simp at this; omega
        case rel => exact ⟨ds ++ [(c, p1, p2, p3)], ini ++ [(b, q)], ts, c, (p1, p2, p3), u2, rfl, rfl, Lib.hid ⟨by rw [HK.out.1]; simp, rfl, HU2.out⟩, HV2, HO2, HFN, Lib.hid ⟨B2.out, S2.out⟩, HSN, X2⟩
      case true =>
        have HV2 : Hid ((ini ++ [(b, q)]).map (·.2) = pkD :: ((ds ++ [(c, p1, p2, p3)]).map (·.2)).filter fun p => !P p) := Lib.hid (by
          rw [HV.out, List.map_append, List.filter_append]; simp [hP])
        have HOE : Hid ((((ds ++ [(c, p1, p2, p3)]).map (·.2)).filter P).map (·.1) = ((ds.map (·.2)).filter P).map (·.1) ++ [p1]) := Lib.hid (by
          rw [List.map_append, List.filter_append, List.map_append]; simp [hP])
        have hcut := F2.out.cut
        have n3 := F2.out.node2.c3
        rw [HU2.out] at n3 hcut
        obtain ⟨b3, bf⟩ := (⟨F2.out.node.c3, F2.out.node.fz 3⟩ : _ ∧ _)
        rw [hdB_cons, pv_some] at b3
        obtain ⟨W3, hW3⟩ : ∃ W3, w2.setCell ⟨b, 3, none⟩ (.pointer u2) = W3 := ⟨_, rfl⟩
        rw [hW3] at hcut
        have HW3 := Lib.hid hW3
        have F3 := Lib.hid hcut.1
        have N3 := Lib.hid hcut.2
        have hbB : B ≤ b := F2.out.lo.2 (b, q) (by simp)
        have B3 : Hid (Below B w W3) := Lib.hid (by rw [← hW3]; exact B2.out.setCell (p := ⟨b, 3, none⟩) hbB _)
        have S3 : Hid (w.heap.size ≤ W3.heap.size) := Lib.hid (by rw [← hW3]; simpa using S2.out)
        have hbf : FB f ((s, pkD) :: t) b := HS.out b (.inr ⟨(b, q), by simp, rfl⟩)
        have hbw : b < w.heap.size := FL0.out b hbf
        have X3 : Hid (∀ c, c < w.heap.size → ¬ FB f ((s, pkD) :: t) c → W3.heap[c]? = w.heap[c]?) := Lib.hid fun c hc hn => by rw [← hW3]; exact (keep_set fun e => hn (by rw [← e]; exact hbf)).trans (X2.out c hc hn)
        obtain ⟨m, hm⟩ : ∃ m, ((ds.map (·.2)).filter P).map (·.1) = m := ⟨_, rfl⟩
        rw [hm] at O2 HOE
        have hml : m.length ≤ l.length := by
          rw [← hm, List.length_map]
          refine Nat.le_trans (List.length_filter_le _ _) ?_
          rw [← HT.out, HK.out.1]; simp
        have O3 : Hid (OwnI W3 w.heap.size u5 m) := Lib.hid (by
          rw [← hW3]
          refine World.ownsRow.kept O2.out (Lib.grownBy_setCell w2 b 3 _) (.inr fun e => ?_)
          have := (World.ownsRow.lt O2.out b e).1; omega)
        obtain ⟨av, cv, hv⟩ := OwnI.shape O3.out
        subst hv
        obtain ⟨n0, n1, n2, n4, nf⟩ := id N3.out
        simp only at n0
        rw [HU2.out] at n4
        have HML := Lib.hid hml
        have HSN : Hid (∀ c', FB f (ini ++ (b, q) :: ts) c' → FB f ((s, pkD) :: t) c') := Lib.hid (fun c' hc => HS.out c' (by
          rcases hc with h | ⟨y, hy, h⟩
          · exact .inl h
          · refine .inr ⟨y, ?_, h⟩
            rcases List.mem_append.1 hy with hy | hy
            · exact List.mem_append_left _ hy
            · refine List.mem_append_right _ ?_
              rcases List.mem_cons.1 hy with hy | hy
              · exact hy ▸ List.mem_cons_self ..
              · exact List.mem_cons_of_mem _ (List.mem_cons_of_mem _ hy)))
        clear hP hcut hbB hbw hbf hm hml O2 nf hW3 n1 n2
        go_upto_region 8 with fail
        rw [HW3.out]
        clear n3 b3 bf
        go_wp2_with (at_builtin; refine wpList_app_int _ rfl _ _ rfl w.heap.size _ m rfl O3.out p1 _ _ rfl rfl ?c1 ?c2 ?_)
        case c1 => have := HML.out; omega
        case c2 => exact S3.out
        intro v' w4 hO hg hq
        obtain ⟨qb, hqb⟩ := OB.out
        have hqb' : w.heap.size ≤ qb ∧ qb < W3.heap.size := World.ownsRow.lt O3.out qb hqb
        have G1 : ∀ x, x < W3.heap.size → x ≠ qb → w4.heap[x]? = W3.heap[x]? := fun x hx hxq => by
          have e1 := ((Below.refl W3.heap.size W3).alloc (Nat.le_refl _) (.cells #[.int .i64 p1] 3)).block x hx
          rw [← e1]
          exact hg.block x (by simp; omega) (by rw [hqb]; exact fun e => hxq (Option.some.inj e))
        have F4 := Lib.hid (F3.out.keep (w' := w4) fun x hx => G1 x (F3.out.flt hx).1 (by have := FL0.out x (HSN.out x hx); omega))
        have hcw : c < w.heap.size := FL0.out c (HS.out c (.inr ⟨(c, p1, p2, p3), by simp, rfl⟩))
        have X4 : Hid (∀ c, c < w.heap.size → ¬ FB f ((s, pkD) :: t) c → w4.heap[c]? = w.heap[c]?) := Lib.hid fun c hc hn => (G1 c (by have := S3.out; omega) (by omega)).trans (X3.out c hc hn)
        have N4 := (N3.out.keep (w' := w4) (G1 c N3.out.lt (by omega))).c3
        rw [HU2.out] at N4
        have B4 := Lib.hid ((B3.out.alloc (Nat.le_trans HBB.out S3.out) (.cells #[.int .i64 p1] 3)).grown hg (by simp; have := HBB.out; have := S3.out; omega) (fun k hk => by rw [hqb] at hk; have := Option.some.inj hk; have := HBB.out; omega))
        have S4 : Hid (w.heap.size ≤ w4.heap.size) := Lib.hid (by have := hg.size; simp at this; have := S3.out; omega)
        have HO4 : Hid (OwnI w4 w.heap.size v' ((((ds ++ [(c, p1, p2, p3)]).map (·.2)).filter P).map (·.1)) ∧ ∃ qb, v'.ownBlock = some qb) := Lib.hid (by
          rw [HOE.out]
          refine ⟨hO, ?_⟩
          rcases hq with hq | hq
          · exact ⟨qb, by rw [hq, hqb]⟩
          · exact ⟨_, hq⟩)
        clear hO hg hq hqb hqb' G1 hcw n0 n4 F3 N3 B3 S3 O3
        go_wp2_with fail
        go_roundg ts.length
        case measure => have := HK.out.2.1; simp at this; omega
        case rel => exact ⟨ds ++ [(c, p1, p2, p3)], ini, ts, b, q, u2, rfl, rfl, Lib.hid ⟨by rw [HK.out.1]; simp, rfl, HU2.out⟩, HV2, HO4, F4, Lib.hid ⟨B4.out, S4.out⟩, HSN, X4⟩

end Go.Proofs.Ytccolpaenmebeaa
