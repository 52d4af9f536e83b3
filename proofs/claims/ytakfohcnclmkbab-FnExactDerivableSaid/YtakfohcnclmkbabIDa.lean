/- Chapter 11, the program: the set of all derivable atoms. -/
import Derived.Test.YtakfohcnclmkbabIOp
import Derived.Maps.AppendAt
import Derived.Deep.LoopGhost
import Derived.Test.YtakfohcnclmkbabOwnI
import Derived.Test.YtakfohcnclmkbabSDr
namespace Go.Proofs.Ytakfohcnclmkbab
open Go.RowKit Go.Maps
set_option linter.unusedVariables false
set_option linter.unusedSimpArgs false

theorem cell_of_heap {w : World} {b : Nat} {cs : Array Value} {T : TypeId} {fr : Nat × Nat} (h : w.heap[b]? = some (.cells cs T fr)) (o : Nat) : w.cell? ⟨b, o, none⟩ = cs[o]? := by
  unfold World.cell?; rw [h]; rfl
theorem frozen_of_heap {w : World} {b : Nat} {cs : Array Value} {T : TypeId} (h : w.heap[b]? = some (.cells cs T (0, 0))) (o : Nat) : w.frozen? ⟨b, o, none⟩ = false := by
  unfold World.frozen?; rw [h]; simp
theorem heap_new (w : World) (o : Obj) : (w.alloc o).heap[w.heap.size]? = some o := (MapKept.heap_alloc w o).1
theorem heap3 (w : World) (o1 o2 o3 : Obj) : (((w.alloc o1).alloc o2).alloc o3).heap[w.heap.size]? = some o1 ∧ (((w.alloc o1).alloc o2).alloc o3).heap[w.heap.size + 1]? = some o2 ∧ (((w.alloc o1).alloc o2).alloc o3).heap[w.heap.size + 2]? = some o3 := by
  have s1 : (w.alloc o1).heap.size = w.heap.size + 1 := by simp
  have s2 : ((w.alloc o1).alloc o2).heap.size = w.heap.size + 2 := by simp
  have h1 := heap_new w o1
  have h2 := heap_new (w.alloc o1) o2
  have h3 := heap_new ((w.alloc o1).alloc o2) o3
  rw [s1] at h2
  rw [s2] at h3
  refine ⟨?_, ?_, h3⟩
  · rw [Below.heap_alloc _ _ _ (by omega), Below.heap_alloc _ _ _ (by omega)]; exact h1
  · rw [Below.heap_alloc _ _ _ (by omega)]; exact h2
def OfPost (w0 w : World) (m : Nat) (b : Bx) (e : Ending) (w' : World) : Prop := e = .returned (opV w.heap.size) ∧ Below w.heap.size w w' ∧ w.heap.size + 3 ≤ w'.heap.size ∧ OpAt w0 w' m w.heap.size b false

set_option maxRecDepth 100000 in
set_option maxHeartbeats 1000000 in
theorem iof_any (w0 w : World) (b : Bx) (ra : Option Addr) (rc m : Nat) (h : Ints w0 (.slice ra b.2.length rc) b.2) :
    Calls Try.prog 49 #[bxV b ra rc, .map (some m)] w (OfPost w0 w m b) := by
  have HI := Lib.hid h
  clear h
  unfold bxV
  go_enter Try.func49, Try.ntmps49
  go_wp2_with fail
  go_ret
  have b1 : Below w.heap.size w _ := (Below.refl _ w).alloc (Nat.le_refl _) (.cells #[.int .i64 b.1, .slice ra b.2.length rc] 43)
  have b2 := b1.alloc b1.size (.cells #[.map (some m)] 56)
  obtain ⟨h1, h2, h3⟩ := heap3 w (.cells #[.int .i64 b.1, .slice ra b.2.length rc] 43) (.cells #[.map (some m)] 56) (.cells #[.bool false] 4)
  refine ⟨rfl, b2.alloc b2.size _, by simp, ?_, ?_, ?_, ?_, ra, rc, ?_, HI.out⟩
  · exact cell_of_heap h3 0
  · exact frozen_of_heap h3 0
  · exact cell_of_heap h2 0
  · exact cell_of_heap h1 0
  · exact cell_of_heap h1 1

def DaPost (w : World) (l : List Bx) (k : List Int) (e : Ending) (w' : World) : Prop :=
  ∃ (m : Nat) (L : List Int), e = .returned (.map (some m)) ∧ Below w.heap.size w w' ∧ w.heap.size ≤ m ∧ MapHas w' m L ∧ L.length ≤ 60 ∧ ∀ x, x ∈ L ↔ Ders l k x
/-- j openers, in a row of the call's own. -/
structure Ops (w0 w : World) (m : Nat) (ss : List Nat) (l : List Bx) (j : Nat) (v : Value) : Prop where
  row : w.ownsRow w0.heap.size 65 1 v j (ss.map opV)
  len : ss.length = j
  ops : ∀ i, i < j → OpAt w0 w m (ss.getD i 0) (l.getD i bxD) false
  apart : ∀ i k, i < k → k < j → ss.getD i 0 + 2 < ss.getD k 0
  base : ∀ i, i < j → w0.heap.size ≤ ss.getD i 0
theorem Ops.shape {w0 w : World} {m : Nat} {ss : List Nat} {l : List Bx} {j : Nat} {v : Value} (h : Ops w0 w m ss l j v) : ∃ a c, v = .slice a j c := ownsRow_shape h.row
theorem MapHas.ne_row {w : World} {m : Nat} {L : List Int} (h : MapHas w m L) {B n k : Nat} {e : TypeId} {v : Value} {xs : List Value} (ho : w.ownsRow B e k v n xs) : v.ownBlock ≠ some m := by
  obtain ⟨D, ⟨es, clock, h1, _⟩, _⟩ := h
  obtain ⟨_, ⟨rfl, _⟩ | ⟨g, c, cur, rfl, _, h2, _⟩⟩ := ho
  · simp [Value.ownBlock]
  · simp only [Value.ownBlock]
    intro e
    injection e with e
    subst e
    rw [h1] at h2; cases h2
theorem getD_at (l : List Nat) (i : Nat) (h : i < l.length) : (l.map opV)[i]? = some (opV (l.getD i 0)) := by
  rw [List.getElem?_map, List.getElem?_eq_getElem h, List.getD_eq_getElem?_getD, List.getElem?_eq_getElem h]; rfl
theorem Ops.row_ne {w0 w : World} {m : Nat} {ss : List Nat} {l : List Bx} {j : Nat} {v : Value} (h : Ops w0 w m ss l j v) {i : Nat} (hi : i < j) {n : Nat} (hn : v.ownBlock = some n) : n ≠ ss.getD i 0 ∧ n ≠ ss.getD i 0 + 1 ∧ n ≠ ss.getD i 0 + 2 := by
  obtain ⟨a, c, rfl⟩ := h.shape
  have h0 : 0 < ss.length := by rw [h.len]; omega
  have hc := h.row
  obtain ⟨_, ⟨he, h0'⟩ | ⟨g, c', cur, he, _⟩⟩ := hc
  · omega
  · injection he with he1 he2 he3
    subst he1
    simp only [Value.ownBlock] at hn
    injection hn with hn
    subst hn
    have e := h.row.cellAt 0 (by omega)
    rw [getD_at _ _ h0] at e
    have o := h.ops i hi
    exact ⟨cell_ne e o.c2 (by simp [opV]), cell_ne e o.c1 (by simp [opV]), cell_ne e o.c0 (by simp [opV])⟩
theorem Ops.below {w0 w w' : World} {m : Nat} {ss : List Nat} {l : List Bx} {j : Nat} {v : Value} (h : Ops w0 w m ss l j v) (hb : Below w.heap.size w w') : Ops w0 w' m ss l j v :=
  ⟨own_below h.row hb, h.len, fun i hi => (h.ops i hi).but (X := fun _ => False) (But.of_below hb) (fun h => h) (fun h => h) (fun h => h), h.apart, h.base⟩
theorem Ops.top {w0 w : World} {m : Nat} {ss : List Nat} {l : List Bx} {j : Nat} {v : Value} (h : Ops w0 w m ss l j v) (i : Nat) (hi : i < j) : ss.getD i 0 + 2 < w.heap.size := World.block_lt_of_cell? w _ (h.ops i hi).c0
theorem getD_snoc (l : List Nat) (x : Nat) (i : Nat) (h : i ≤ l.length) : (l ++ [x]).getD i 0 = if i < l.length then l.getD i 0 else x := by
  rw [List.getD_eq_getElem?_getD, List.getD_eq_getElem?_getD]
  split
  · rename_i h; rw [List.getElem?_append_left h]
  · rw [List.getElem?_append_right (by omega), show i - l.length = 0 by omega]; rfl
/-- One more opener: what the row's own law leaves. -/
theorem Ops.snoc {w0 wr w1 w2 : World} {m : Nat} {ss : List Nat} {l : List Bx} {j : Nat} {v v' : Value} {ob : Obj} (h : Ops w0 wr m ss l j v) (hb : Below wr.heap.size wr w1) (ho : OpAt w0 w1 m wr.heap.size (l.getD j bxD) false) (hsz : wr.heap.size + 3 ≤ w1.heap.size)
    (h0 : w0.heap.size ≤ wr.heap.size) (hr : w2.ownsRow w0.heap.size 65 1 v' (j + 1) (ss.map opV ++ [opV wr.heap.size])) (hg : (w1.alloc ob).grownBy w2 v.ownBlock) : Ops w0 w2 m (ss ++ [wr.heap.size]) l (j + 1) v' := by
  have h1 := h.below hb
  have hb1 : Below w1.heap.size w1 (w1.alloc ob) := (Below.refl _ _).alloc (Nat.le_refl _) _
  have h2 := h1.below hb1
  have ho2 : OpAt w0 (w1.alloc ob) m wr.heap.size (l.getD j bxD) false := ho.but (X := fun _ => False) (But.of_below hb1) (fun h => h) (fun h => h) (fun h => h)
  have hbut : But (fun n => v.ownBlock = some n) (w1.alloc ob) w2 := ⟨hg.os, hg.tape, hg.output, hg.size, fun n hn hx => hg.block n hn fun e => hx e.symm⟩
  have hvlt : ∀ n, v.ownBlock = some n → n < wr.heap.size := fun n hn => (World.ownsRow.lt h.row n hn).2
  have hlen := h.len
  refine ⟨by rw [List.map_append]; exact hr, by simp [hlen], fun i hi => ?_, fun i k hik hk => ?_, fun i hi => ?_⟩
  · rw [getD_snoc _ _ _ (by omega)]
    split
    · rename_i hlt
      have hi' : i < j := by omega
      exact (h2.ops i hi').but hbut (fun e => (h2.row_ne hi' e).1 rfl) (fun e => (h2.row_ne hi' e).2.1 rfl) (fun e => (h2.row_ne hi' e).2.2 rfl)
    · have : i = j := by omega
      subst this
      exact ho2.but hbut (fun e => by have := hvlt _ e; omega) (fun e => by have := hvlt _ e; omega) (fun e => by have := hvlt _ e; omega)
  · rw [getD_snoc _ _ _ (by omega), getD_snoc _ _ _ (by omega)]
    rw [if_pos (by omega)]
    split
    · exact h.apart i k hik (by omega)
    · exact h.top i (by omega)
  · rw [getD_snoc _ _ _ (by omega)]
    split
    · exact h.base i (by omega)
    · exact h0
theorem Ops.all {w0 w : World} {m : Nat} {ss : List Nat} {l : List Bx} {v : Value} (h : Ops w0 w m ss l l.length v) : OpsAt w0 w m ss l (fun _ => false) v := by
  obtain ⟨a, c, rfl⟩ := h.shape
  refine ⟨h.ops, h.apart, h.base, a, c, rfl, fun hne => ?_⟩
  have hr := h.row
  obtain ⟨_, ⟨he, h0'⟩ | ⟨g, c', cur, he, _⟩⟩ := hr
  · exact absurd (List.length_eq_zero_iff.1 h0') hne
  · injection he with he1 he2 he3
    subst he1
    refine ⟨g, rfl, fun i hi => ?_⟩
    have hl := h.len
    exact (h.row.cellAt i (by omega)).trans (getD_at _ _ (by omega))

theorem DaPost.empty {w w' : World} {l : List Bx} {k : List Int} (h : ¬ (bsok l = true ∧ kok k = true)) (hb : Below w.heap.size w w') (hm : MapHas w' w.heap.size []) : DaPost w l k (.returned (.map (some w.heap.size))) w' :=
  ⟨_, [], rfl, hb, Nat.le_refl _, hm, by simp, fun x => ⟨fun h => by simp at h, fun hd => absurd hd.1 h⟩⟩
theorem kok_split (k : List Int) : kok k = (decide ((k.length : Int) ≤ 20) && k.all aok) := by
  unfold kok
  rw [show decide ((k.length : Int) ≤ 20) = decide (k.length ≤ 20) by rw [decide_eq_decide]; omega]

set_option maxRecDepth 100000 in
set_option maxHeartbeats 1000000 in
theorem ida_any (v u : Value) (l : List Bx) (k : List Int) (w : World) (h : Bxs w v l) (hk : Ints w u k) (hl : l.length ≤ 1048576) (hlen : ∀ b ∈ l, b.2.length ≤ 1048576) (hkl : k.length ≤ 1048576) :
    Calls Try.prog 38 #[v, u] w (DaPost w l k) := by
  have SB := Lib.hid (fun W hW => iboxes_any v l W hW hl hlen)
  have SK := Lib.hid (fun W hW => ivatoms_any u k 20 W hW hkl)
  rw [← kok_split] at SK
  have HV := Lib.hid h
  have HU := Lib.hid hk
  have HM0 : Hid (MapHas (w.alloc (.map #[] 0)) w.heap.size []) := Lib.hid (MapHas.new w)
  have HB0 : Hid (Below w.heap.size w (w.alloc (.map #[] 0))) := Lib.hid ((Below.refl _ _).alloc (Nat.le_refl _) _)
  have hsz : (w.alloc (.map #[] 0)).heap.size = w.heap.size + 1 := by simp
  obtain ⟨a, c, rfl, hc⟩ := h
  obtain ⟨ka, kc, rfl, _⟩ := hk
  have HC := Lib.hid hc
  clear hl hlen hkl hc
  obtain ⟨i0, hi, hz0, hz1, hz2⟩ := info_parts (show (Try.prog.info? 65).map (fun i => (i.zero, i.size, i.bytes)) = some (some .nilFunc, 1, 8) by kernel_rfl)
  have HI := Lib.hid hi
  clear hi
  have hmm := @run_makeMap Try.prog
  go_enter Try.func38, Try.ntmps38
  go_wp2_with fail
  refine (SB.out _ (HV.out.below HB0.out)).mono ?_
  rintro e w1 ⟨rfl, hb⟩
  have HB1 : Hid (Below w.heap.size w w1) := Lib.hid (HB0.out.trans (hb.mono (by omega)))
  have HM1 : Hid (MapHas w1 w.heap.size []) := Lib.hid (HM0.out.kept (hb.block _ (by omega)))
  have hsz1 : w.heap.size + 1 ≤ w1.heap.size := by have := hb.size; omega
  clear hb HM0 HB0 hsz
  cases hq : bsok l with
  | false =>
    have HE := Lib.hid (not_both1 (b := kok k) hq)
    clear hq
    go_wp2_with fail
    go_ret
    exact DaPost.empty HE.out HB1.out HM1.out
  | true =>
    have HQ := Lib.hid hq
    clear hq
    go_wp2_with fail
    refine (SK.out _ (HU.out.below HB1.out)).mono ?_
    rintro e w2 ⟨rfl, hb⟩
    have HB2 : Hid (Below w.heap.size w w2) := Lib.hid (HB1.out.trans (hb.mono (by omega)))
    have HM2 : Hid (MapHas w2 w.heap.size []) := Lib.hid (HM1.out.kept (hb.block _ (by omega)))
    have hsz2 : w.heap.size + 1 ≤ w2.heap.size := by have := hb.size; omega
    clear hb HM1 HB1 hsz1
    cases hq : kok k with
    | false =>
      have HE := Lib.hid (not_both2 (a := bsok l) hq)
      clear hq
      go_wp2_with fail
      go_ret
      exact DaPost.empty HE.out HB2.out HM2.out
    | true =>
      have HQ2 := Lib.hid hq
      have hk20 := (kok_iff.1 hq).1
      have hl10 := (bsok_iff.1 HQ.out).1
      clear hq
      go_wp2_with fail
      refine (iadd_any w.heap.size _ k [] w2 (HU.out.below HB2.out) HM2.out (fun a ha => i64ok_atom ((kok_iff.1 HQ2.out).2 a ha)) (by omega) (by simp)).mono ?_
      rintro e w3 ⟨rfl, hm, hb⟩
      have HM3 : Hid (MapHas w3 w.heap.size k) := Lib.hid (by simpa using hm)
      have HB3 : Hid (Below w.heap.size w w3) := Lib.hid (HB2.out.trans (hb.below (fun n hn => by omega) (by omega)))
      have hsz3 : w.heap.size + 1 ≤ w3.heap.size := by have := hb.size; omega
      clear hm hb HM2 HB2 hsz2
      go_wp2_with fail
      go_loopw [6, 25] (fun ov iv wr => ∃ (j : Nat) (ss : List Nat), j ≤ l.length ∧ ss.length = j ∧ iv = .int .i64 (j : Int) ∧ Hid (Below w.heap.size w wr) ∧ Hid (MapHas wr w.heap.size k) ∧ Hid (Ops w wr w.heap.size ss l j ov)) (fun _ iv _ => l.length - (intOf iv).toNat)
      case atStart => exact ⟨0, [], Nat.zero_le _, rfl, rfl, Lib.hid (HB3.out.alloc HB3.out.size _), Lib.hid (HM3.out.kept (Below.heap_alloc _ _ _ (by omega))), Lib.hid ⟨own_new _ 1 _ _ HB3.out.size, rfl, fun i hi => absurd hi (Nat.not_lt_zero _), fun i k _ hk => absurd hk (Nat.not_lt_zero _), fun i hi => absurd hi (Nat.not_lt_zero _)⟩⟩
      case round =>
        clear HM3 HB3
        obtain ⟨j, ss, hj, hss, rfl, HB, HM, HO⟩ := hrel
        obtain ⟨oa, oc, rfl⟩ := HO.out.shape
        by_cases hlt : j < l.length
        · have hlt' : (j : Int) < (l.length : Int) := by omega
          obtain ⟨g, o, rfl, hc⟩ := HC.out (by rintro rfl; simp at hlt)
          obtain ⟨ra, rc, hf⟩ := hc j hlt
          have hg := World.block_lt_of_cell? w _ hf.1
          have HT := Lib.hid (takeB l j hlt)
          obtain ⟨c0, c1, hi⟩ := hf
          have e0 := (HB.out.cell (p := ⟨g, o + j * 2, none⟩) hg).trans c0
          have e1 := (HB.out.cell (p := ⟨g, o + j * 2 + 1, none⟩) hg).trans c1
          have IO := Lib.hid (fun W => iof_any w W (l.getD j bxD) ra rc w.heap.size hi)
          have HB' : ∃ b, l.getD j bxD = b := ⟨_, rfl⟩
          obtain ⟨b, hb⟩ := HB'
          have HBE := Lib.hid hb
          rw [hb] at e0 e1 IO
          unfold bxV at IO
          obtain ⟨key, ins⟩ := b
          simp only at e0 e1 IO
          clear hb c0 c1 hi hc
          go_wp2_with fail
          have hA : Below wr.heap.size wr (wr.alloc (.cells #[.int .i64 key, .slice ra ins.length rc] 43)) := (Below.refl _ _).alloc (Nat.le_refl _) _
          have HBx : Hid (Below w.heap.size w (wr.alloc (.cells #[.int .i64 key, .slice ra ins.length rc] 43))) := Lib.hid (HB.out.trans (hA.mono HB.out.size))
          have HOx := Lib.hid (HO.out.below hA)
          have HMx : Hid (MapHas (wr.alloc (.cells #[.int .i64 key, .slice ra ins.length rc] 43)) w.heap.size k) := Lib.hid (HM.out.kept (hA.block _ HM.out.lt))
          clear hA e0 e1 HB HO HM
          refine (IO.out _).mono ?_
          generalize wr.alloc (.cells #[.int .i64 key, .slice ra ins.length rc] 43) = W0 at *
          rintro e w4 ⟨rfl, hb, hsz4, hop⟩
          have HB4 : Hid (Below w.heap.size w w4) := Lib.hid (HBx.out.trans (hb.mono HBx.out.size))
          have HO4 := Lib.hid (HOx.out.below hb)
          have HM4 : Hid (MapHas w4 w.heap.size k) := Lib.hid (HMx.out.kept (hb.block _ HMx.out.lt))
          have HBB := Lib.hid hb
          have HOP : Hid (OpAt w w4 w.heap.size W0.heap.size (l.getD j bxD) false) := Lib.hid (by rw [HBE.out]; exact hop)
          clear hb hop
          have HNE : Hid (Value.ownBlock (.slice oa j oc) ≠ some w.heap.size) := Lib.hid (HMx.out.ne_row HOx.out.row)
          have HW0 : Hid (w.heap.size ≤ W0.heap.size) := Lib.hid HBx.out.size
          have HSZ := Lib.hid hsz4
          unfold opV
          go_wp2_with (at_builtin; refine wpList_append_own_at (w := w4.alloc (.cells #[opV W0.heap.size] 65)) rfl _ _ 63 rfl w.heap.size 65 i0 .nilFunc 1 8 Try.underlying63 HI.out hz0 hz1 hz2 rfl (by decide) (.slice oa j oc) j _ rfl (World.ownsRow.alloc HO4.out.row _) ⟨w4.heap.size, 0, none⟩ 1 1 [opV W0.heap.size] rfl rfl ?c1 ?c2 ?c3 ?c4 ?c5 ?_)
          case c1 => exact cell_one_new _ _ _
          case c2 => intro u hu; simp at hu; subst hu; rfl
          case c3 => unfold maxLen; omega
          case c4 => omega
          case c5 => have := HB4.out.size; simp; omega
          intro v' w5 hr hg _ _
          have HB5 : Hid (Below w.heap.size w w5) := Lib.hid (below_own HB4.out HO4.out.row HB4.out.size hg)
          have HM5 : Hid (MapHas w5 w.heap.size k) := Lib.hid ((HM4.out.kept (Below.heap_alloc _ _ _ HM4.out.lt)).kept (hg.block _ (by have := HM4.out.lt; simp; omega) (fun e => HNE.out e.symm)))
          have HO5 := Lib.hid (HOx.out.snoc HBB.out HOP.out HSZ.out HW0.out hr hg)
          clear hr hg
          go_wp2_with fail
          go_roundw
          case rel => exact ⟨j + 1, ss ++ [W0.heap.size], by omega, by simp; omega, by go_num, HB5, HM5, HO5⟩
          case measure => simp [intOf]; omega
        · have hlt' : ¬ (j : Int) < (l.length : Int) := by omega
          obtain rfl : j = l.length := by omega
          have HOA := Lib.hid HO.out.all
          have HIV : Hid (Inv l k k (fun _ => false)) := Lib.hid ⟨fun a h => h, fun a h => .known h, fun i _ h => (by cases h), by omega⟩
          go_wp2_with fail
          go_loopg [37] (l.length + 1) (fun gg _ wr => ∃ (L : List Int) (fl : Nat → Bool), Hid (Below w.heap.size w wr) ∧ Hid (MapHas wr w.heap.size L) ∧ Hid (OpsAt w wr w.heap.size ss l fl (.slice oa l.length oc)) ∧ Hid (Inv l k L fl) ∧ l.length - cnt fl l.length < gg)
          case atStart => exact ⟨k, fun _ => false, HB, HM, HOA, HIV, by omega⟩
          case round =>
            clear HB HM HO HOA HIV
            obtain ⟨L, fl, HB, HM, HOA, HIV, hgg⟩ := hrel
            go_wp2_with fail
            refine (iall_any w wr w.heap.size ss l k L fl _ HOA.out HM.out HB.out (Nat.le_refl _) HQ.out (by omega) HIV.out).mono ?_
            rintro e w5 ⟨t, fl', L', rfl, hm, ho, hiv, hb, hcase⟩
            have HM5 := Lib.hid hm
            have HO5 := Lib.hid ho
            have HV5 := Lib.hid hiv
            have HB5 := Lib.hid hb
            have hle := cnt_le fl' l.length
            rcases hcase with ⟨rfl, hdone⟩ | ⟨rfl, hlt3⟩
            · have HD := Lib.hid (hiv.done hdone)
              clear hm ho hiv hb hdone
              go_wp2_with fail
              go_ret
              exact ⟨w.heap.size, L', rfl, HB5.out, Nat.le_refl _, HM5.out, by have := HV5.out.len; omega, fun x => (HD.out x).trans ⟨fun h => ⟨⟨HQ.out, HQ2.out⟩, h⟩, fun h => h.2⟩⟩
            · clear hm ho hiv hb
              go_wp2_with fail
              go_roundg (l.length - cnt fl' l.length + 1)
              case measure => omega
              case rel => exact ⟨L', fl', HB5, HM5, HO5, HV5, by omega⟩

end Go.Proofs.Ytakfohcnclmkbab
