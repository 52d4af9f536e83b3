/- The program's (*flight).packets, lastTime, size. -/
import Derived.Test.YtccolpaenmebeaaFl
import Derived.Deep.LoopGhost
namespace Go.Proofs.Ytccolpaenmebeaa
open Go.RowKit
open Go (Handed)
set_option linter.unusedVariables false
set_option linter.unusedSimpArgs false

theorem last_time {l : List Pk} {ini : Cs} {b : Nat} {p : Pk} {cs : Cs} (h : cs.map (·.2) = pkD :: l) (e : cs = ini ++ [(b, p)]) : p = (pkD :: l).getD l.length pkD := by
  have hl : cs.length = l.length + 1 := by rw [← List.length_map (f := (·.2)), h]; rfl
  rw [← h, e, List.map_append]
  have : l.length = (ini.map (·.2)).length := by rw [e] at hl; simp at hl ⊢; omega
  rw [this, List.getD_eq_getElem?_getD, List.getElem?_append_right (Nat.le_refl _)]
  simp

set_option maxRecDepth 100000 in
set_option maxHeartbeats 1000000 in
theorem lastTime_any (B f : Nat) (cs : Cs) (l : List Pk) (w : World) (h : Fl w B f cs l) :
    Calls Try.prog 43 #[.pointer (some ⟨f, 0, none⟩)] w fun e w' => e = .returned (.int .i64 ((pkD :: l).getD l.length pkD).2.1) ∧ w = w' := by
  obtain ⟨ini, b, p, he, hc1⟩ := h.c1
  have HP := Lib.hid (last_time h.val he)
  have hN : NodeAt w b p none := by have := h.ch; rw [he] at this; exact (Ch.drop (a := ini) this).1
  obtain ⟨n0, n1, n2, n3, nf⟩ := hN
  rw [pv_some] at hc1
  clear he h
  go_enter Try.func43, Try.ntmps43
  go_wp2_with fail
  go_ret
  exact ⟨congrArg (fun x : Pk => Ending.returned (.int .i64 x.2.1)) HP.out, rfl⟩

def PkPost (w : World) (l : List Pk) (e : Ending) (w' : World) : Prop := ∃ v, e = .returned v ∧ OwnPk w' w.heap.size v l ∧ Below w.heap.size w w'

set_option maxRecDepth 100000 in
set_option maxHeartbeats 2000000 in
theorem fpackets_any (B f : Nat) (cs : Cs) (l : List Pk) (w : World) (h : Fl w B f cs l) (hl : l.length ≤ 1048576) : Calls Try.prog 44 #[.pointer (some ⟨f, 0, none⟩)] w (PkPost w l) := by
  have H := Lib.hid h
  obtain ⟨s, t, hcs, hl2⟩ := h.head
  have c0 := h.c0
  rw [hcs, hdB_cons, pv_some] at c0
  have hch := h.ch
  rw [hcs] at hch
  obtain ⟨hn, hch⟩ := hch
  have n3 := hn.c3
  have fl := h.lt
  have HCH := Lib.hid hch
  have HT := Lib.hid hl2
  have hsl := hn.lt
  have hsl' : s < w.heap.size := hsl
  obtain ⟨u0, hu0⟩ : ∃ u, pv (hdB t) = .pointer u := ⟨_, rfl⟩
  have HU := Lib.hid hu0
  simp only at n3
  rw [hu0] at n3
  have W1 := Lib.hid (show OwnPk (w.alloc (.cells #[] 57)) w.heap.size (.slice (some ⟨w.heap.size, 0, none⟩) 0 0) [] from OwnPk.new _ w (Nat.le_refl _))
  have B1 := Lib.hid ((Below.refl w.heap.size w).alloc (Nat.le_refl _) (.cells #[] 57))
  have g0 := (B1.out.cell (p := ⟨f, 0, none⟩) fl).trans c0
  have g3 := (B1.out.cell (p := ⟨s, 3, none⟩) hsl').trans n3
  clear h hcs hn hch hl2 hu0 c0 n3
  go_enter Try.func44, Try.ntmps44
  go_wp2_with fail
  go_loopg [3, 4] t.length (fun k lv nv wr => ∃ (ds ts : Cs) (u : Option Addr), nv = .pointer u ∧ Hid (t = ds ++ ts ∧ k = ts.length ∧ pv (hdB ts) = .pointer u) ∧ Hid (OwnPk wr w.heap.size lv (ds.map (·.2))) ∧ Hid (Below w.heap.size w wr))
  case atStart => exact ⟨[], t, u0, rfl, Lib.hid ⟨rfl, rfl, HU.out⟩, W1, B1⟩
  case round =>
    obtain ⟨ds, ts, u, rfl, HK, HO, HB⟩ := hrel
    cases ts with
    | nil =>
      have hu : u = none := by have := HK.out.2.2; rw [hdB_nil, pv_none] at this; injection this with this; exact this.symm
      subst hu
      have HE : Hid (PkPost w l (.returned u3) wr) := Lib.hid ⟨_, rfl, by have := HO.out; rw [show ds = t by rw [HK.out.1, List.append_nil], HT.out] at this; exact this, HB.out⟩
      go_wp2_with fail
      go_ret
      exact HE.out
    | cons x ts =>
      obtain ⟨b, p1, p2, p3⟩ := x
      have hu : u = some ⟨b, 0, none⟩ := by have := HK.out.2.2; rw [hdB_cons, pv_some] at this; injection this with this; exact this.symm
      subst hu
      have hnode : NodeAt w b (p1, p2, p3) (hdB ts) := by have := HCH.out; rw [HK.out.1] at this; exact (Ch.drop (a := ds) this).1
      have hbl := hnode.lt
      obtain ⟨W2, hW2⟩ : ∃ W2, wr.alloc (.cells #[.int .i64 p1, .int .i64 p2, .int .i64 p3] 57) = W2 := ⟨_, rfl⟩
      have HW2 := Lib.hid hW2
      have N1 := Lib.hid (hnode.keep (HB.out.block b hbl))
      obtain ⟨n0, n1, n2, n3, nf⟩ := id N1.out
      obtain ⟨u2, hu2⟩ : ∃ u, pv (hdB ts) = .pointer u := ⟨_, rfl⟩
      have HU2 := Lib.hid hu2
      rw [hu2] at n3
      simp only at n0 n1 n2
      obtain ⟨m, hm⟩ : ∃ m, ds.map (·.2) = m := ⟨_, rfl⟩
      have HMM := Lib.hid hm
      rw [hm] at HO
      obtain ⟨av, cv, hv⟩ := OwnPk.shape HO.out
      subst hv
      have hlen : m.length + 1 ≤ l.length := by rw [← hm]; rw [← HT.out, HK.out.1]; simp
      have S2 := Lib.hid (show SrcP (wr.alloc (.cells #[.int .i64 p1, .int .i64 p2, .int .i64 p3] 57)) (.slice (some ⟨wr.heap.size, 0, none⟩) 1 1) [(p1, p2, p3)] from SrcP.new wr (p1, p2, p3) _)
      have O2 := Lib.hid (HO.out.below ((Below.refl wr.heap.size wr).alloc (Nat.le_refl _) (.cells #[.int .i64 p1, .int .i64 p2, .int .i64 p3] 57)))
      have N2 := Lib.hid (N1.out.keep (((Below.refl wr.heap.size wr).alloc (Nat.le_refl _) (.cells #[.int .i64 p1, .int .i64 p2, .int .i64 p3] 57)).block b (by have := HB.out.size; omega)))
      have B2 := Lib.hid (HB.out.alloc HB.out.size (.cells #[.int .i64 p1, .int .i64 p2, .int .i64 p3] 57))
      have HL := Lib.hid hlen
      clear hnode hu2 hlen nf hW2 hm
      go_wp2_with (at_builtin; refine wpList_app_pk _ rfl _ _ rfl w.heap.size _ m [(p1, p2, p3)] rfl O2.out _ rfl S2.out ?c1 ?c2 ?_)
      case c1 => have := HL.out; simp; omega
      case c2 => exact B2.out.size
      intro aa nn cc w3 hO hnn hg hgg hnil
      have hrow : ∀ q, (Value.slice av m.length cv).ownBlock = some q → w.heap.size ≤ q := fun q hq => (World.ownsRow.lt O2.out q hq).1
      have B3 := Lib.hid (B2.out.grown hg B2.out.size hrow)
      have n3' : w3.cell? ⟨b, 3, none⟩ = some (.pointer u2) := by
        rw [← HU2.out]
        exact hg.cell N2.out.c3 (fun e => by have := hrow b e.symm; omega)
      have HN := hnn
      have HO3 := Lib.hid (show OwnPk w3 w.heap.size (.slice aa nn cc) ((ds ++ [(b, p1, p2, p3)]).map (·.2)) by rw [List.map_append, HMM.out]; exact hO)
      clear hO hnn hg hgg hnil hrow n0 n1 n2 n3
      go_wp2_with fail
      go_roundg ts.length
      case measure => have := HK.out.2.1; simp at this; omega
      case rel => exact ⟨ds ++ [(b, p1, p2, p3)], ts, u2, rfl, Lib.hid ⟨by rw [HK.out.1]; simp, rfl, HU2.out⟩, HO3, B3⟩



theorem lbytes_app (a b : List Pk) : lbytes (a ++ b) = lbytes a + lbytes b := by unfold lbytes; rw [List.map_append, List.sum_append]
theorem lbytes_one (p1 p2 p3 : Int) : lbytes [(p1, p2, p3)] = p3 := by simp [lbytes]
theorem lbytes_lim : ∀ (l : List Pk), (∀ p ∈ l, 1 ≤ p.2.2 ∧ p.2.2 ≤ 99) → 0 ≤ lbytes l ∧ lbytes l ≤ 99 * l.length
  | [], _ => by simp [lbytes]
  | p :: t, h => by
    obtain ⟨k1, k2⟩ := lbytes_lim t (fun q hq => h q (List.mem_cons_of_mem _ hq))
    obtain ⟨k3, k4⟩ := h p (List.mem_cons_self ..)
    unfold lbytes at k1 k2 ⊢
    simp only [List.map_cons, List.sum_cons, List.length_cons]
    omega

set_option maxRecDepth 100000 in
set_option maxHeartbeats 2000000 in
theorem fsize_any (B f : Nat) (cs : Cs) (l : List Pk) (w : World) (h : Fl w B f cs l) (hl : l.length ≤ 12) (hp : ∀ p ∈ l, 1 ≤ p.2.2 ∧ p.2.2 ≤ 99) : Calls Try.prog 58 #[.pointer (some ⟨f, 0, none⟩)] w fun e w' => e = .returned (.int .i64 (lbytes l)) ∧ w = w' := by
  have H := Lib.hid h
  obtain ⟨s, t, hcs, hl2⟩ := h.head
  have c0 := h.c0
  rw [hcs, hdB_cons, pv_some] at c0
  have hch := h.ch
  rw [hcs] at hch
  obtain ⟨hn, hch⟩ := hch
  have n3 := hn.c3
  have HCH := Lib.hid hch
  have HT := Lib.hid hl2
  obtain ⟨u0, hu0⟩ : ∃ u, pv (hdB t) = .pointer u := ⟨_, rfl⟩
  have HU := Lib.hid hu0
  simp only at n3
  rw [hu0] at n3
  have HLT : Hid (∀ ds ts : Cs, t = ds ++ ts → 0 ≤ lbytes (ds.map (·.2)) ∧ lbytes (ds.map (·.2)) ≤ 1188) := Lib.hid fun ds ts e => by
    have hm : ∀ p ∈ ds.map (·.2), p ∈ l := fun p hp => by rw [← hl2, e, List.map_append]; exact List.mem_append_left _ hp
    obtain ⟨k1, k2⟩ := lbytes_lim (ds.map (·.2)) (fun p hp' => hp p (hm p hp'))
    have : (ds.map (·.2)).length ≤ l.length := by rw [← hl2, e]; simp
    omega
  clear h hcs hn hch hl2 hu0
  go_enter Try.func58, Try.ntmps58
  go_wp2_with fail
  go_loopg [3, 4] t.length (fun k lv nv wr => ∃ (ds ts : Cs) (u : Option Addr), nv = .pointer u ∧ lv = .int .i64 (lbytes (ds.map (·.2))) ∧ Hid (t = ds ++ ts ∧ k = ts.length ∧ pv (hdB ts) = .pointer u) ∧ Hid (w = wr))
  case atStart => exact ⟨[], t, u0, rfl, rfl, Lib.hid ⟨rfl, rfl, HU.out⟩, Lib.hid rfl⟩
  case round =>
    obtain ⟨ds, ts, u, rfl, rfl, HK, HB⟩ := hrel
    have hb := HB.out
    subst hb
    cases ts with
    | nil =>
      have hu : u = none := by have := HK.out.2.2; rw [hdB_nil, pv_none] at this; injection this with this; exact this.symm
      subst hu
      have HE : Hid (lbytes (ds.map (·.2)) = lbytes l) := Lib.hid (by rw [show ds = t by rw [HK.out.1, List.append_nil], HT.out])
      go_wp2_with fail
      go_ret
      exact ⟨ret_int HE.out, rfl⟩
    | cons x ts =>
      obtain ⟨b, p1, p2, p3⟩ := x
      have hu : u = some ⟨b, 0, none⟩ := by have := HK.out.2.2; rw [hdB_cons, pv_some] at this; injection this with this; exact this.symm
      subst hu
      have hnode : NodeAt w b (p1, p2, p3) (hdB ts) := by have := HCH.out; rw [HK.out.1] at this; exact (Ch.drop (a := ds) this).1
      obtain ⟨n0, n1, n2, n3', nf⟩ := id hnode
      obtain ⟨u2, hu2⟩ : ∃ u, pv (hdB ts) = .pointer u := ⟨_, rfl⟩
      have HU2 := Lib.hid hu2
      rw [hu2] at n3'
      simp only at n0 n1 n2
      have k1 := HLT.out ds _ HK.out.1
      have k2 := HLT.out (ds ++ [(b, p1, p2, p3)]) ts (by rw [HK.out.1]; simp)
      have HA : Hid (lbytes ((ds ++ [(b, p1, p2, p3)]).map (·.2)) = lbytes (ds.map (·.2)) + p3) := Lib.hid (by rw [List.map_append, lbytes_app]; simp only [List.map_cons, List.map_nil]; rw [lbytes_one])
      rw [HA.out] at k2
      obtain ⟨m, hm⟩ : ∃ m, lbytes (ds.map (·.2)) = m := ⟨_, rfl⟩
      rw [hm] at HA k1 k2 ⊢
      have hw1 : IntKind.i64.wrap (m + p3) = m + p3 := IntWalk.i64_in _ (by omega)
      clear hnode hu2 nf hm k1 k2
      go_wp2_with fail
      go_roundg ts.length
      case measure => have := HK.out.2.1; simp at this; omega
      case rel => exact ⟨ds ++ [(b, p1, p2, p3)], ts, u2, rfl, by rw [HA.out], Lib.hid ⟨by rw [HK.out.1]; simp, rfl, HU2.out⟩, Lib.hid rfl⟩

end Go.Proofs.Ytccolpaenmebeaa
