/- Chapter 11, the program: openers. -/
import Derived.Test.YtakfohcnclmkbabIMp
namespace Go.Proofs.Ytakfohcnclmkbab
open Go.RowKit Go.Maps
set_option linter.unusedVariables false
set_option linter.unusedSimpArgs false

/-- The three variables of an opener, from block s on: its box, the map, whether it has opened. w0: the world in which the boxes lay. -/
structure OpAt (w0 w : World) (m s : Nat) (b : Bx) (o : Bool) : Prop where
  c0 : w.cell? ⟨s + 2, 0, none⟩ = some (.bool o)
  fz : w.frozen? ⟨s + 2, 0, none⟩ = false
  c1 : w.cell? ⟨s + 1, 0, none⟩ = some (.map (some m))
  c2 : w.cell? ⟨s, 0, none⟩ = some (.int .i64 b.1)
  c3 : ∃ ra rc, w.cell? ⟨s, 1, none⟩ = some (.slice ra b.2.length rc) ∧ Ints w0 (.slice ra b.2.length rc) b.2
def opV (s : Nat) : Value := .func (.func 56) #[] #[.pointer (some ⟨s + 2, 0, none⟩), .pointer (some ⟨s + 1, 0, none⟩), .pointer (some ⟨s, 0, none⟩)]

theorem OpAt.but {w0 w w' : World} {m s : Nat} {b : Bx} {o : Bool} {X : Nat → Prop} (h : OpAt w0 w m s b o) (hb : But X w w') (h0 : ¬ X s) (h1 : ¬ X (s + 1)) (h2 : ¬ X (s + 2)) : OpAt w0 w' m s b o := by
  obtain ⟨c0, fz, c1, c2, ra, rc, c3, hi⟩ := h
  refine ⟨hb.cell h2 c0, ?_, hb.cell h1 c1, hb.cell h0 c2, ra, rc, hb.cell h0 c3, hi⟩
  rw [World.frozen?_of_block (hb.block (s + 2) (World.block_lt_of_cell? w _ c0) h2)]; exact fz

def OpnPost (w0 w : World) (m s : Nat) (b : Bx) (o : Bool) (L : List Int) (e : Ending) (w' : World) : Prop :=
  ∃ (t o' : Bool) (L' : List Int), e = .returned (.bool t) ∧ MapHas w' m L' ∧ But (fun n => n = m ∨ n = s + 2) w w' ∧ OpAt w0 w' m s b o' ∧
    ((t = false ∧ o' = o ∧ L' = L ∧ (o = true ∨ b.1 ∉ L)) ∨ (t = true ∧ o = false ∧ b.1 ∈ L ∧ o' = true ∧ L' = L ++ b.2))

theorem OpnPost.no {w0 w w' : World} {m s : Nat} {b : Bx} {o : Bool} {L : List Int} (h : OpAt w0 w m s b o) (hm : MapHas w m L) (hb : Below w.heap.size w w') (hn : o = true ∨ b.1 ∉ L) : OpnPost w0 w m s b o L (.returned (.bool false)) w' := by
  refine ⟨false, o, L, rfl, hm.kept (hb.block m hm.lt), But.of_below hb, ?_, .inl ⟨rfl, rfl, rfl, hn⟩⟩
  exact h.but (X := fun _ => False) (But.of_below hb) (fun h => h) (fun h => h) (fun h => h)

set_option maxRecDepth 100000 in
set_option maxHeartbeats 1000000 in
theorem iopn_any (w0 w : World) (m s : Nat) (b : Bx) (o : Bool) (L : List Int) (h : OpAt w0 w m s b o) (hm : MapHas w m L) (hw : Below w0.heap.size w0 w) (hs : w0.heap.size ≤ s) (hb : bok b = true) (hL : L.length ≤ 900) :
    Calls Try.prog 56 #[.pointer (some ⟨s + 2, 0, none⟩), .pointer (some ⟨s + 1, 0, none⟩), .pointer (some ⟨s, 0, none⟩)] w (OpnPost w0 w m s b o L) := by
  have HO := Lib.hid h
  have HM := Lib.hid hm
  obtain ⟨c0, fz, c1, c2, ra, rc, c3, hi⟩ := h
  have HI := Lib.hid (hi.below hw)
  obtain ⟨hk, hn1, hn4, hat⟩ := bok_iff.1 hb
  have HAT := Lib.hid (fun a ha => i64ok_atom (hat a ha))
  have hlook := hm.look (x := b.1) (i64ok_atom hk)
  have HW := Lib.hid hw
  clear hat hi hb hw
  obtain ⟨key, ins⟩ := b
  simp only at c2 c3 hlook hn1 hn4 HI HAT
  cases o with
  | true =>
    have HE : Hid (∀ w', Below w.heap.size w w' → OpnPost w0 w m s (key, ins) true L (.returned (.bool false)) w') := Lib.hid fun w' hb => OpnPost.no HO.out HM.out hb (.inl rfl)
    clear hm hk
    go_enter Try.func56, Try.ntmps56
    go_wp2_with fail
    go_ret
    exact HE.out _ (Below.refl _ _)
  | false =>
    by_cases hq : key ∈ L
    · have HQ := Lib.hid hq
      rw [decide_eq_true hq] at hlook
      have IA := Lib.hid (iadd_any m (.slice ra ins.length rc) ins L w HI.out hm HAT.out (by omega) (by omega))
      clear hm hk hq
      go_enter Try.func56, Try.ntmps56
      go_wp2_with fail
      refine IA.out.mono ?_
      rintro e w1 ⟨rfl, hm1, hb1⟩
      have HO1 := Lib.hid (HO.out.but hb1 (fun e => HM.out.ne c2 e) (fun e => HM.out.ne c1 e) (fun e => HM.out.ne c0 e))
      have d0 := HO1.out.c0
      have f0 := HO1.out.fz
      have HM1 := Lib.hid hm1
      have HB1 := Lib.hid hb1
      clear hm1 hb1 c0 fz c1 c2 c3 hlook
      go_wp2_with fail
      go_ret
      have hb2 := But.set w1 (s + 2) 0 (.bool true)
      refine ⟨true, true, L ++ ins, rfl, HM1.out.kept (hb2.block m HM1.out.lt (fun e => HM1.out.ne d0 e.symm)), (HB1.out.mono (fun n _ h => Or.inl h)).trans (hb2.mono (fun n _ h => Or.inr h)), ?_, .inr ⟨rfl, rfl, HQ.out, rfl, rfl⟩⟩
      obtain ⟨d0, f0, d1, d2, ra', rc', d3, hi'⟩ := HO1.out
      have n0 : s ≠ s + 2 := by omega
      have n1 : s + 1 ≠ s + 2 := by omega
      refine ⟨?_, ?_, hb2.cell n1 d1, hb2.cell n0 d2, ra', rc', hb2.cell n0 d3, hi'⟩
      · exact World.cell?_setCell_same' _ _ _ (by rw [d0]; rfl)
      · rw [World.frozen?_setCell]; exact f0
    · have HE : Hid (∀ w', Below w.heap.size w w' → OpnPost w0 w m s (key, ins) false L (.returned (.bool false)) w') := Lib.hid fun w' hb => OpnPost.no HO.out HM.out hb (.inr hq)
      rw [decide_eq_false hq] at hlook
      clear hm hk hq
      go_enter Try.func56, Try.ntmps56
      go_wp2_with fail
      go_ret
      exact HE.out _ (Below.refl _ _)

/-! ### All openers -/
def upd (fl : Nat → Bool) (i : Nat) (o : Bool) : Nat → Bool := fun j => if j = i then o else fl j
def cnt (fl : Nat → Bool) (n : Nat) : Nat := (List.range n).countP fl
theorem cnt_le (fl : Nat → Bool) (n : Nat) : cnt fl n ≤ n := by
  have := List.countP_le_length (p := fl) (l := List.range n)
  rw [List.length_range] at this; exact this
theorem cnt_succ (fl : Nat → Bool) (n : Nat) : cnt fl (n + 1) = cnt fl n + if fl n = true then 1 else 0 := by
  unfold cnt; rw [List.range_succ, List.countP_append, List.countP_cons]; simp
theorem cnt_out (fl : Nat → Bool) (i : Nat) (o : Bool) : ∀ n, n ≤ i → cnt (upd fl i o) n = cnt fl n
  | 0, _ => rfl
  | n + 1, h => by
    rw [cnt_succ, cnt_succ, cnt_out fl i o n (by omega)]
    have : upd fl i o n = fl n := by unfold upd; rw [if_neg (by omega)]
    rw [this]
theorem upd_self (fl : Nat → Bool) (i : Nat) : upd fl i (fl i) = fl := by
  funext j; unfold upd; split
  · rename_i e; rw [e]
  · rfl
theorem cnt_upd (fl : Nat → Bool) (i : Nat) (h : fl i = false) : ∀ n, i < n → cnt (upd fl i true) n = cnt fl n + 1
  | 0, hn => by omega
  | n + 1, hn => by
    rw [cnt_succ, cnt_succ]
    by_cases e : n = i
    · subst e
      rw [cnt_out fl n true n (Nat.le_refl _), h]
      have : upd fl n true n = true := by unfold upd; rw [if_pos rfl]
      rw [this]; simp
    · rw [cnt_upd fl i h n (by omega)]
      have : upd fl i true n = fl n := by unfold upd; rw [if_neg e]
      rw [this]; omega

structure OpsAt (w0 w : World) (m : Nat) (ss : List Nat) (l : List Bx) (fl : Nat → Bool) (v : Value) : Prop where
  ops : ∀ i, i < l.length → OpAt w0 w m (ss.getD i 0) (l.getD i bxD) (fl i)
  apart : ∀ i j, i < j → j < l.length → ss.getD i 0 + 2 < ss.getD j 0
  base : ∀ i, i < l.length → w0.heap.size ≤ ss.getD i 0
  row : ∃ a c, v = .slice a l.length c ∧ (l ≠ [] → ∃ g, a = some ⟨g, 0, none⟩ ∧ ∀ i, i < l.length → w.cell? ⟨g, i, none⟩ = some (opV (ss.getD i 0)))

theorem OpAt.ne_m {w0 w : World} {m s : Nat} {b : Bx} {o : Bool} {L : List Int} (h : OpAt w0 w m s b o) (hm : MapHas w m L) : s ≠ m ∧ s + 1 ≠ m ∧ s + 2 ≠ m := ⟨hm.ne h.c2, hm.ne h.c1, hm.ne h.c0⟩
theorem cell_ne {w : World} {a b : Nat} {o : Nat} {u v : Value} (h : w.cell? ⟨a, o, none⟩ = some u) (k : w.cell? ⟨b, o, none⟩ = some v) (hne : u ≠ v) : a ≠ b := by
  rintro rfl; rw [h] at k; injection k with k; exact hne k
theorem OpsAt.step {w0 w w' : World} {m : Nat} {ss : List Nat} {l : List Bx} {fl : Nat → Bool} {v : Value} {L : List Int} {i : Nat} {o' : Bool} (h : OpsAt w0 w m ss l fl v) (hm : MapHas w m L) (hi : i < l.length)
    (hb : But (fun n => n = m ∨ n = ss.getD i 0 + 2) w w') (ho : OpAt w0 w' m (ss.getD i 0) (l.getD i bxD) o') : OpsAt w0 w' m ss l (upd fl i o') v := by
  obtain ⟨h1, h2, hbs, a, c, rfl, h3⟩ := h
  have hi0 := h1 i hi
  refine ⟨fun j hj => ?_, h2, hbs, a, c, rfl, fun hne => ?_⟩
  · by_cases e : j = i
    · subst e
      have : upd fl j o' j = o' := by unfold upd; rw [if_pos rfl]
      rw [this]; exact ho
    · have : upd fl i o' j = fl j := by unfold upd; rw [if_neg e]
      rw [this]
      have hj0 := h1 j hj
      obtain ⟨n0, n1, n2⟩ := hj0.ne_m hm
      refine hj0.but hb ?_ ?_ ?_
      · rintro (h | h)
        · exact n0 h
        · exact cell_ne hj0.c2 hi0.c0 (by simp) h
      · rintro (h | h)
        · exact n1 h
        · exact cell_ne hj0.c1 hi0.c0 (by simp) h
      · rintro (h | h)
        · exact n2 h
        · rcases Nat.lt_or_gt_of_ne e with hlt | hlt
          · have := h2 j i hlt hi; omega
          · have := h2 i j hlt hj; omega
  · obtain ⟨g, rfl, hc⟩ := h3 hne
    refine ⟨g, rfl, fun j hj => hb.cell ?_ (hc j hj)⟩
    rintro (h | h)
    · exact hm.ne (hc j hj) h
    · have h0 := hc 0 (by omega)
      exact cell_ne h0 hi0.c0 (by simp [opV]) h

/-- What holds between two openers: what is known is there, all that is there can be derived, an open box's atoms are there. -/
structure Inv (l : List Bx) (k L : List Int) (fl : Nat → Bool) : Prop where
  known : ∀ a ∈ k, a ∈ L
  sound : ∀ a ∈ L, Der l k a
  opens : ∀ i, i < l.length → fl i = true → ∀ a ∈ (l.getD i bxD).2, a ∈ L
  len : L.length ≤ k.length + 4 * cnt fl l.length
theorem Inv.step {l : List Bx} {k L : List Int} {fl : Nat → Bool} {i : Nat} (h : Inv l k L fl) (hi : i < l.length) (h0 : fl i = false) (hk : (l.getD i bxD).1 ∈ L) (hl : (l.getD i bxD).2.length ≤ 4) : Inv l k (L ++ (l.getD i bxD).2) (upd fl i true) := by
  obtain ⟨h1, h2, h3, h4⟩ := h
  refine ⟨fun a ha => List.mem_append_left _ (h1 a ha), fun a ha => ?_, fun j hj hf a ha => ?_, ?_⟩
  · rcases List.mem_append.1 ha with ha | ha
    · exact h2 a ha
    · exact .opens (takeB l i hi).2 (h2 _ hk) ha
  · by_cases e : j = i
    · subst e; exact List.mem_append_right _ ha
    · have : upd fl i true j = fl j := by unfold upd; rw [if_neg e]
      rw [this] at hf
      exact List.mem_append_left _ (h3 j hj hf a ha)
  · rw [List.length_append, cnt_upd fl i h0 _ hi]; omega
/-- Where no opener opened, nothing more can be derived. -/
theorem Inv.done {l : List Bx} {k L : List Int} {fl : Nat → Bool} (h : Inv l k L fl) (hc : ∀ i, i < l.length → fl i = true ∨ (l.getD i bxD).1 ∉ L) (a : Int) : a ∈ L ↔ Der l k a := by
  refine ⟨h.sound a, fun hd => Der.least (S := fun a => a ∈ L) h.known (fun b hb hs a ha => ?_) hd⟩
  obtain ⟨i, hi, rfl⟩ := List.getElem_of_mem hb
  have e : l.getD i bxD = l[i] := by rw [List.getD_eq_getElem?_getD, List.getElem?_eq_getElem hi]; rfl
  have h1 := hc i hi
  have h2 := h.opens i hi
  rw [e] at h1 h2
  rcases h1 with h1 | h1
  · exact h2 h1 a ha
  · exact absurd hs h1

def AllPost (w0 w : World) (m : Nat) (ss : List Nat) (l : List Bx) (k L : List Int) (fl : Nat → Bool) (v : Value) (e : Ending) (w' : World) : Prop :=
  ∃ (t : Bool) (fl' : Nat → Bool) (L' : List Int), e = .returned (.bool t) ∧ MapHas w' m L' ∧ OpsAt w0 w' m ss l fl' v ∧ Inv l k L' fl' ∧ Below w0.heap.size w0 w' ∧
    ((t = false ∧ ∀ i, i < l.length → fl' i = true ∨ (l.getD i bxD).1 ∉ L') ∨ (t = true ∧ cnt fl l.length < cnt fl' l.length))

set_option maxRecDepth 100000 in
set_option maxHeartbeats 1000000 in
theorem iall_any (w0 w : World) (m : Nat) (ss : List Nat) (l : List Bx) (k L : List Int) (fl : Nat → Bool) (v : Value) (ho : OpsAt w0 w m ss l fl v) (hm : MapHas w m L) (hw : Below w0.heap.size w0 w) (hm0 : w0.heap.size ≤ m)
    (hl : bsok l = true) (hk : k.length ≤ 20) (hv : Inv l k L fl) : Calls Try.prog 50 #[v] w (AllPost w0 w m ss l k L fl v) := by
  have hl10 := (bsok_iff.1 hl).1
  have HL := Lib.hid (bsok_iff.1 hl).2
  have HO := Lib.hid ho
  have HM := Lib.hid hm
  have HW := Lib.hid hw
  have HV := Lib.hid hv
  obtain ⟨a, c, rfl⟩ : ∃ a c, v = .slice a l.length c := by obtain ⟨_, _, _, a, c, rfl, _⟩ := ho; exact ⟨a, c, rfl⟩
  clear ho hm hw hv hl
  go_enter Try.func50, Try.ntmps50
  go_wp2_with fail
  go_loopw [3, 8] (fun ov iv wr => ∃ (j : Nat) (t : Bool) (fl' : Nat → Bool) (L' : List Int), j ≤ l.length ∧ ov = .bool t ∧ iv = .int .i64 (j : Int) ∧ Hid (MapHas wr m L') ∧ Hid (OpsAt w0 wr m ss l fl' (.slice a l.length c)) ∧ Hid (Inv l k L' fl') ∧ Hid (Below w0.heap.size w0 wr) ∧
      Hid ((t = false ∧ cnt fl l.length = cnt fl' l.length ∧ ∀ i, i < j → fl' i = true ∨ (l.getD i bxD).1 ∉ L') ∨ (t = true ∧ cnt fl l.length < cnt fl' l.length))) (fun _ iv _ => l.length - (intOf iv).toNat)
  case atStart => exact ⟨0, false, fl, L, Nat.zero_le _, rfl, rfl, HM, HO, HV, HW, Lib.hid (.inl ⟨rfl, rfl, fun i hi => absurd hi (Nat.not_lt_zero _)⟩)⟩
  case round =>
    clear HM HO HV HW
    obtain ⟨j, t, fl', L', hj, rfl, rfl, HM, HO, HV, HW, HA⟩ := hrel
    by_cases hlt : j < l.length
    · have hlt' : (j : Int) < (l.length : Int) := by omega
      have hop := HO.out.ops j hlt
      have hbs := HO.out.base j hlt
      obtain ⟨a', c', he, hr⟩ := HO.out.row
      injection he with he1 he2 he3
      subst he1; subst he3
      obtain ⟨g, rfl, hc⟩ := hr (by rintro rfl; simp at hlt)
      have e1 := hc j hlt
      unfold opV at e1
      have hbk := HL.out _ (takeB l j hlt).2
      have hLl : L'.length ≤ 900 := by have := HV.out.len; have := cnt_le fl' l.length; omega
      have IO := Lib.hid (iopn_any w0 wr m (ss.getD j 0) (l.getD j bxD) (fl' j) L' hop HM.out HW.out hbs hbk hLl)
      have HOP := Lib.hid hop
      have HBS := Lib.hid hbs
      have HLN := Lib.hid (bok_iff.1 hbk).2.2.1
      have HSJ : ∃ s, ss.getD j 0 = s := ⟨_, rfl⟩
      obtain ⟨s, hs⟩ := HSJ
      rw [hs] at e1
      have HS := Lib.hid hs
      rw [hs] at IO
      clear hc hr hop hbs hbk he2 hs hLl
      go_wp2_with fail
      refine IO.out.mono ?_
      rintro e w1 ⟨t1, o', L1, rfl, hm1, hb1, ho1, hcase⟩
      have hs := HS.out
      have HO1 := Lib.hid (HO.out.step HM.out hlt (by rw [hs]; exact hb1) (by rw [hs]; exact ho1))
      have HM1 := Lib.hid hm1
      have HW1 : Hid (Below w0.heap.size w0 w1) := Lib.hid (HW.out.trans (hb1.below (fun n hn => by have := HBS.out; rcases hn with rfl | rfl <;> omega) HW.out.size))
      rcases hcase with ⟨rfl, rfl, rfl, hno⟩ | ⟨rfl, hf0, hin, rfl, rfl⟩
      · have HN := Lib.hid hno
        rw [upd_self] at HO1
        clear hm1 hb1 ho1 hno hs
        go_wp2_with fail
        go_roundw
        case rel =>
          refine ⟨j + 1, t, fl', _, by omega, rfl, by go_num, HM1, HO1, HV, HW1, Lib.hid ?_⟩
          rcases HA.out with ⟨h1, h2, h3⟩ | h
          · refine .inl ⟨h1, h2, fun i hi => ?_⟩
            by_cases e : i = j
            · subst e; exact HN.out
            · exact h3 i (by omega)
          · exact .inr h
        case measure => simp [intOf]; omega
      · have HV1 := Lib.hid (HV.out.step hlt hf0 hin HLN.out)
        have HC := Lib.hid (cnt_upd fl' j hf0 _ hlt)
        clear hm1 hb1 ho1 hf0 hin hs
        go_wp2_with fail
        go_roundw
        case rel =>
          refine ⟨j + 1, true, _, _, by omega, rfl, by go_num, HM1, HO1, HV1, HW1, Lib.hid (.inr ⟨rfl, ?_⟩)⟩
          rw [HC.out]
          rcases HA.out with ⟨_, h2, _⟩ | ⟨_, h2⟩ <;> omega
        case measure => simp [intOf]; omega
    · have hlt' : ¬ (j : Int) < (l.length : Int) := by omega
      go_wp2_with fail
      go_ret
      refine ⟨t, fl', L', rfl, HM.out, HO.out, HV.out, HW.out, ?_⟩
      rcases HA.out with ⟨h1, _, h3⟩ | h
      · exact .inl ⟨h1, fun i hi => h3 i (by omega)⟩
      · exact .inr h

end Go.Proofs.Ytakfohcnclmkbab
