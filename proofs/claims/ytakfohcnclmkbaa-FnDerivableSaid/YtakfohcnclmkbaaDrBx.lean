/- Drawn boxes: l91Boxes. -/
import Derived.Test.YtakfohcnclmkbaaDrAt
import Derived.Lib.AppendZeros
import Derived.Deep.RegionLaw
import Derived.Laws.OwnMore
namespace Go.Proofs.Ytakfohcnclmkbaa
open Go.RowKit
set_option linter.unusedVariables false
set_option linter.unusedSimpArgs false

/-- Boxes of the call's own: the row, and of each box its atoms, apart from the row. -/
def OwnBs (w : World) (B : Nat) (v : Value) (l : List BxR) : Prop :=
  OwnB w B v l ∧ ∀ r ∈ l, OwnI w B (bsl r) r.1.2 ∧ ∀ b, (bsl r).ownBlock = some b → v.ownBlock ≠ some b
theorem OwnBs.bxs {w : World} {B : Nat} {v : Value} {l : List BxR} (h : OwnBs w B v l) : Bxs w v (l.map Prod.fst) := h.1.bxs fun r hr => (h.2 r hr).1.ints
theorem OwnB.picked {w w' : World} {B b : Nat} {v : Value} {xs : List BxR} (h : OwnB w B v xs) (hg : w.grownBy w' (some b)) (hb : b < B) : OwnB w' B v xs := by
  refine h.kept hg ?_
  cases hq : v.ownBlock with
  | none => exact .inl rfl
  | some g => exact .inr fun e => by have := (h.lt hq).1; injection e; omega
theorem OwnBs.picked {w w' : World} {B b : Nat} {v : Value} {l : List BxR} (h : OwnBs w B v l) (hg : w.grownBy w' (some b)) (hb : b < B) : OwnBs w' B v l :=
  ⟨h.1.picked hg hb, fun r hr => ⟨(h.2 r hr).1.picked hg hb, (h.2 r hr).2⟩⟩
theorem OwnBs.below {w w' : World} {B : Nat} {v : Value} {l : List BxR} (h : OwnBs w B v l) (hb : Below w.heap.size w w') : OwnBs w' B v l :=
  ⟨h.1.below hb, fun r hr => ⟨(h.2 r hr).1.below hb, (h.2 r hr).2⟩⟩
theorem OwnBs.new (B : Nat) (w : World) (h : B ≤ w.heap.size) : OwnBs (w.alloc (.cells #[] 31)) B (.slice (some ⟨w.heap.size, 0, none⟩) 0 0) [] :=
  ⟨OwnB.new B w h, fun r hr => by simp at hr⟩
/-- A step that writes one block, which is no row of these. -/
theorem OwnBs.kept {w w' : World} {B x : Nat} {v : Value} {l : List BxR} (h : OwnBs w B v l) (hg : w.grownBy w' (some x)) (h1 : v.ownBlock ≠ some x) (h2 : ∀ r ∈ l, (bsl r).ownBlock ≠ some x) : OwnBs w' B v l :=
  ⟨h.1.kept hg (.inr h1), fun r hr => ⟨(h.2 r hr).1.kept hg (.inr (h2 r hr)), (h.2 r hr).2⟩⟩
theorem OwnBs.snoc {w w2 : World} {B : Nat} {v v' : Value} {l : List BxR} {r : BxR} {o : Obj} (h : OwnBs w B v l) (hr : OwnI w B (bsl r) r.1.2) (hap : ∀ b, (bsl r).ownBlock = some b → v.ownBlock ≠ some b)
    (ho : OwnB w2 B v' (l ++ [r])) (hg : (w.alloc o).grownBy w2 v.ownBlock) (hb : v'.ownBlock = v.ownBlock ∨ v'.ownBlock = some (w.heap.size + 1)) : OwnBs w2 B v' (l ++ [r]) := by
  have key : ∀ q : BxR, OwnI w B (bsl q) q.1.2 → (∀ b, (bsl q).ownBlock = some b → v.ownBlock ≠ some b) → OwnI w2 B (bsl q) q.1.2 ∧ ∀ b, (bsl q).ownBlock = some b → v'.ownBlock ≠ some b := by
    intro q h1 h2
    refine ⟨(h1.alloc o).kept hg ?_, fun b hq => ?_⟩
    · cases hq : (bsl q).ownBlock with
      | none => exact .inl rfl
      | some b => exact .inr fun e => h2 b hq e.symm
    · rcases hb with e | e
      · rw [e]; exact h2 b hq
      · rw [e]; intro e2
        have := (h1.lt hq).2
        injection e2 with e2
        omega
  refine ⟨ho, fun q hq => ?_⟩
  rcases List.mem_append.1 hq with hq | hq
  · exact key q (h.2 q hq).1 (h.2 q hq).2
  · rw [List.mem_singleton.1 hq]; exact key r hr hap
def BxL (b : Bx) : Prop := b.2.length ≤ 5 ∧ abnd b.1 ∧ ∀ x ∈ b.2, abnd x
def GotBx (w : World) (b k s : Nat) (e : Ending) (w' : World) : Prop :=
  ∃ (v : Value) (l : List BxR), l.length ≤ 9 ∧ (∀ r ∈ l, BxL r.1) ∧ e = .returned v ∧ w.grownBy w' (some b) ∧ Rdr w' b (k + s) ∧ OwnBs w' w.heap.size v l

/-- Inside the loop over a box's atoms: the box's variable in block s + 1, its atoms' row from s on, s the size of w2. -/
structure In3 (w2 w : World) (b k : Nat) (y : Int) (v : Value) (xs : List Int) : Prop where
  rdr : Rdr w b k
  c0 : w.cell? ⟨w2.heap.size + 1, 0, none⟩ = some (.int .i64 y)
  c1 : w.cell? ⟨w2.heap.size + 1, 1, none⟩ = some v
  fz : w.frozen? ⟨w2.heap.size + 1, 1, none⟩ = false
  own : OwnI w w2.heap.size v xs
  ne : v.ownBlock ≠ some (w2.heap.size + 1)
  grown : w2.grownBy w (some b)
theorem cell_one_here (w : World) (y : Int) : (w.alloc (.cells #[.int .i64 y] 3)).cell? ⟨w.heap.size, 0, none⟩ = some (.int .i64 y) := by
  have hh : (w.alloc (.cells #[.int .i64 y] 3)).heap[w.heap.size]? = some (.cells #[.int .i64 y] 3) := (MapKept.heap_alloc w _).1
  unfold World.cell?; rw [hh]; rfl
theorem In3.new {b k : Nat} (w2 : World) (y : Int) (hR : Rdr w2 b k) : In3 w2 ((w2.alloc (.cells #[] 3)).alloc (.cells #[.int .i64 y, .slice (some ⟨w2.heap.size, 0, none⟩) 0 0] 31)) b k y (.slice (some ⟨w2.heap.size, 0, none⟩) 0 0) [] := by
  have hs1 : (w2.alloc (.cells #[] 3)).heap.size = w2.heap.size + 1 := by simp
  have hA := (Below.refl w2.heap.size w2).alloc (Nat.le_refl _) (.cells #[] 3)
  have hB := hA.alloc hA.size (.cells #[.int .i64 y, .slice (some ⟨w2.heap.size, 0, none⟩) 0 0] 31)
  have hh : ((w2.alloc (.cells #[] 3)).alloc (.cells #[.int .i64 y, .slice (some ⟨w2.heap.size, 0, none⟩) 0 0] 31)).heap[w2.heap.size + 1]? = some (.cells #[.int .i64 y, .slice (some ⟨w2.heap.size, 0, none⟩) 0 0] 31) := by
    rw [← hs1]; exact (MapKept.heap_alloc _ _).1
  refine ⟨hR.below hB, ?_, ?_, ?_, (OwnI.new _ _ (Nat.le_refl _)).alloc _, by simp [Value.ownBlock], ⟨hB.os, hB.tape, hB.output, hB.size, fun i hi _ => hB.block i hi⟩⟩
  · unfold World.cell?; rw [hh]; rfl
  · unfold World.cell?; rw [hh]; rfl
  · unfold World.frozen?; rw [hh]; rfl
theorem In3.picked {w2 w w' : World} {b k k' : Nat} {y : Int} {v : Value} {xs : List Int} (h : In3 w2 w b k y v xs) (hg : w.grownBy w' (some b)) (hR : Rdr w' b k') (hb : b < w2.heap.size) : In3 w2 w' b k' y v xs := by
  have hne : some (w2.heap.size + 1) ≠ some b := by intro e; injection e; omega
  have hlt : w2.heap.size + 1 < w.heap.size := World.block_lt_of_cell? w _ h.c0
  refine ⟨hR, hg.cell h.c0 hne, hg.cell h.c1 hne, ?_, h.own.picked hg hb, h.ne, h.grown.trans hg⟩
  rw [World.frozen?_of_block (hg.block _ hlt hne)]; exact h.fz

theorem In3.drew {w2 w : World} {b k : Nat} {y : Int} {v : Value} {xs : List Int} (h : In3 w2 w b k y v xs) : In3 w2 w.drew b k y v xs :=
  ⟨h.rdr.below (Below.refl _ _).drew, h.c0, h.c1, h.fz, h.own, h.ne, ⟨h.grown.os, h.grown.tape, h.grown.output, h.grown.size, h.grown.block⟩⟩
theorem In3.keptA {w2 w5 : World} {b k : Nat} {y : Int} {v : Value} {xs : List Int} (h : In3 w2 w5 b k y v xs) (o : Obj) : (w5.alloc o).cell? ⟨w2.heap.size + 1, 1, none⟩ = some v ∧ (w5.alloc o).frozen? ⟨w2.heap.size + 1, 1, none⟩ = false := by
  have hlt : w2.heap.size + 1 < w5.heap.size := World.block_lt_of_cell? w5 _ h.c0
  have hA := (Below.refl w5.heap.size w5).alloc (Nat.le_refl _) o
  refine ⟨(hA.cell hlt).trans h.c1, ?_⟩
  rw [World.frozen?_of_block (hA.block _ hlt)]; exact h.fz
theorem in3_size {w2 w5 : World} {b k : Nat} {y : Int} {v : Value} {xs : List Int} {o : Obj} (h : In3 w2 w5 b k y v xs) : w2.heap.size ≤ (w5.alloc o).heap.size := by
  have := h.grown.size; simp; omega
theorem In3.kept6 {w2 w5 w6 : World} {b k : Nat} {y : Int} {v : Value} {xs : List Int} {o : Obj} (h : In3 w2 w5 b k y v xs) (hg : (w5.alloc o).grownBy w6 v.ownBlock) : w6.cell? ⟨w2.heap.size + 1, 1, none⟩ = some v ∧ w6.frozen? ⟨w2.heap.size + 1, 1, none⟩ = false := by
  have hlt : w2.heap.size + 1 < w5.heap.size := World.block_lt_of_cell? w5 _ h.c0
  have hs : (w5.alloc o).heap.size = w5.heap.size + 1 := by simp
  have hne : some (w2.heap.size + 1) ≠ v.ownBlock := fun e => h.ne e.symm
  have hA := (Below.refl w5.heap.size w5).alloc (Nat.le_refl _) o
  refine ⟨hg.cell ((hA.cell hlt).trans h.c1) hne, ?_⟩
  rw [World.frozen?_of_block (hg.block (w2.heap.size + 1) (by omega) hne), World.frozen?_of_block (hA.block _ hlt)]; exact h.fz
theorem In3.appended {w2 w5 w6 : World} {b k : Nat} {y y5 : Int} {v v' : Value} {xs : List Int} {o : Obj} (h : In3 w2 w5 b k y v xs) (hb : b < w2.heap.size) (ho : OwnI w6 w2.heap.size v' (xs ++ [y5])) (hg : (w5.alloc o).grownBy w6 v.ownBlock)
    (hbk : v'.ownBlock = v.ownBlock ∨ v'.ownBlock = some (w5.alloc o).heap.size) : In3 w2 (w6.setCell ⟨w2.heap.size + 1, 1, none⟩ v') b k y v' (xs ++ [y5]) := by
  have hlt : w2.heap.size + 1 < w5.heap.size := World.block_lt_of_cell? w5 _ h.c0
  have hs : (w5.alloc o).heap.size = w5.heap.size + 1 := by simp
  have hne : some (w2.heap.size + 1) ≠ v.ownBlock := fun e => h.ne e.symm
  have hA := (Below.refl w5.heap.size w5).alloc (Nat.le_refl _) o
  have c0 : w6.cell? ⟨w2.heap.size + 1, 0, none⟩ = some (.int .i64 y) := hg.cell ((hA.cell hlt).trans h.c0) hne
  have c1 : w6.cell? ⟨w2.heap.size + 1, 1, none⟩ = some v := hg.cell ((hA.cell hlt).trans h.c1) hne
  have fz : w6.frozen? ⟨w2.heap.size + 1, 1, none⟩ = false := by
    rw [World.frozen?_of_block (hg.block (w2.heap.size + 1) (by omega) hne), World.frozen?_of_block (hA.block _ hlt)]; exact h.fz
  have hne2 : v'.ownBlock ≠ some (w2.heap.size + 1) := by
    rcases hbk with e | e
    · rw [e]; exact h.ne
    · rw [e]; intro e; injection e; omega
  have hset := Lib.grownBy_setCell w6 (w2.heap.size + 1) 1 v'
  have hg6 : w2.grownBy w6 (some b) := grown_ownI h.grown h.own hg
  have hR6 : Rdr w6 b k := rdr_ownI h.rdr h.own hb hg
  refine ⟨hR6.grown hset (fun r e => by injection e; omega), ?_, ?_, ?_, ho.kept hset (.inr hne2), hne2, ?_⟩
  · rw [World.cell?_setCell_other _ _ _ _ (by simp)]; exact c0
  · exact World.cell?_setCell_same' _ _ _ (by rw [c1]; rfl)
  · rw [World.frozen?_setCell]; exact fz
  · exact World.grownBy.andThen hg6 hset (fun y hy => .inl (by injection hy; omega))

set_option maxRecDepth 100000 in
set_option maxHeartbeats 2000000 in
theorem boxes_any (b k : Nat) (w : World) (R : Rdr w b k) (hk : k ≤ 600000) :
    Calls Try.prog 31 #[.pointer (some ⟨b, 0, none⟩)] w (GotBx w b k 200) := by
  have hbl := R.1
  have R0 := Lib.hid (R.below ((Below.refl w.heap.size w).alloc (Nat.le_refl _) (.cells #[] 31)))
  obtain ⟨i0, hi, hz0, hz1, hz2⟩ := info_parts try_infoInt
  have HI0 := Lib.hid hi
  clear R hi
  go_enter Try.func31, Try.ntmps31
  go_wp2_with fail
  go_loopw [3, 4] (fun ov iv wr => ∃ (j : Nat) (l : List BxR), j ≤ 8 ∧ iv = .int .i64 (j : Int) ∧ l.length = j ∧ Hid (∀ r ∈ l, BxL r.1) ∧ Hid (Rdr wr b (k + 16 * j)) ∧ Hid (w.grownBy wr (some b)) ∧ Hid (OwnBs wr w.heap.size ov l)) (fun _ iv _ => 9 - (intOf iv).toNat)
  case atStart => exact ⟨0, [], by omega, rfl, rfl, Lib.hid (by simp), R0, Lib.hid (World.grownBy_alloc _ _ _), Lib.hid (OwnBs.new _ _ (Nat.le_refl _))⟩
  case round =>
    obtain ⟨j, l, hj, rfl, hlj, HL, HR, HG, HO⟩ := hrel
    obtain ⟨la, lc, rfl⟩ := HO.out.1.shape
    go_wp2_with fail
    refine (pick_rdr b _ _ _ HR.out (by omega) (by omega) (by omega)).mono ?_
    rintro e w1 ⟨x, hx, rfl, hg1, hR1⟩
    have HR1 := Lib.hid hR1
    have HG1 := Lib.hid (HG.out.trans hg1)
    have HO1 := Lib.hid (HO.out.picked hg1 hbl)
    have HLJ := Lib.hid hlj
    clear hg1 hR1 hlj HR HG HO
    by_cases hlt : j < x
    · have hlt' : (j : Int) < (x : Int) := by omega
      go_wp2_with fail
      refine (atom_any b _ _ HR1.out (by omega)).mono ?_
      rintro e w2 ⟨y, hy, rfl, hg2, hR2⟩
      have HG2 := Lib.hid (HG1.out.trans hg2)
      have HO2 := Lib.hid (HO1.out.picked hg2 hbl)
      have HY := Lib.hid hy
      have hs1 : (w2.alloc (.cells #[] 3)).heap.size = w2.heap.size + 1 := by simp
      have HS2 : Hid (w.heap.size ≤ w2.heap.size) := Lib.hid HG2.out.size
      have HI3 := Lib.hid (In3.new w2 y hR2)
      clear hg2 hR2 hy
      go_wp2_with fail
      generalize (w2.alloc (.cells #[] 3)).alloc (.cells #[.int .i64 y, .slice (some ⟨w2.heap.size, 0, none⟩) 0 0] 31) = W3 at *
      go_loopw [6] (fun kv wr => ∃ (q : Nat) (xs : List Int) (v : Value), q ≤ 3 ∧ kv = .int .i64 (q : Int) ∧ xs.length = q ∧ Hid (∀ x ∈ xs, abnd x) ∧ Hid (In3 w2 wr b (k + 16 * j + 3 + 3 * q) y v xs)) (fun kv _ => 4 - (intOf kv).toNat)
      case atStart => exact ⟨0, [], _, by omega, rfl, rfl, Lib.hid (by simp), HI3⟩
      case round =>
        clear HI3
        obtain ⟨q, xs, v, hq, rfl, hlq, HXL, HI⟩ := hrel
        go_wp2_with fail
        refine (pick_rdr b _ _ _ HI.out.rdr (by omega) (by omega) (by omega)).mono ?_
        rintro e w4 ⟨x4, hx4, rfl, hg4, hR4⟩
        have hw4 : IntKind.i64.wrap (1 + (x4 : Int)) = 1 + (x4 : Int) := IntWalk.i64_in _ (by omega)
        have HI4 := Lib.hid (HI.out.picked hg4 hR4 (by have := HS2.out; omega))
        have HLQ := Lib.hid hlq
        clear hg4 hR4 hlq HI
        by_cases hlt2 : q < 1 + x4
        · have hlt2' : (q : Int) < 1 + (x4 : Int) := by omega
          have c0 := HI4.out.c0
          have c1 := HI4.out.c1
          have fz := HI4.out.fz
          obtain ⟨va, vc, rfl⟩ := HI4.out.own.shape
          have HS5 := HS2.out
          have hq6 : xs.length < 1000000 := by have := HLQ.out; omega
          have hbw : b < w2.heap.size := by omega
          have HI4d := HI4.out.drew
          have hkk : k + 16 * j + 3 + 3 * q + 1 ≤ 900000 := by omega
          go_wp2_with fail
          have e1 : w4.drew.cell? ⟨w2.heap.size + 1, 1, none⟩ = some (.slice va xs.length vc) := c1
          go_region_law
            (first
              | (refine step_app_int _ (by rfl) _ _ (by rfl) w2.heap.size _ xs (by rfl) (HI5.out.own.alloc _) y5 1 w5.heap.size (by rfl) (cell_one_here w5 y5) hq6 (in3_size HI5.out) ?_; intro va6 vn6 vc6 w6 ho6 hg6 hbk6; have kS6 := (HI5.out.kept6 hg6.out).1; have kF6 := (HI5.out.kept6 hg6.out).2)
              | (go_simp; go_at_call 40; refine (atom_any b _ _ HI4d.rdr hkk).mono ?_; rintro e w5 ⟨y5, hy5, rfl, hg5, hR5⟩; have HI5 := Lib.hid (HI4d.picked (w' := w5) hg5 hR5 hbw); have kS5 := HI5.out.c1; have kA5 := (HI5.out.keptA (.cells #[.int .i64 y5] 3)).1; have HYB := Lib.hid hy5; clear hg5 hR5 hy5; dsimp only)
              | fail)
          all_goals
            have HI6 := Lib.hid (HI5.out.appended hbw ho6.out hg6.out hbk6.out)
            clear ho6 hg6 hbk6 HI5 kS5 kS6 kA5 kF6 c1 fz e1
            go_wp2_with fail
            go_roundw
            case rel =>
              refine ⟨q + 1, xs ++ [y5], _, by omega, by go_num, by rw [List.length_append, HLQ.out]; rfl, Lib.hid fun z hz => ?_, Lib.hid { HI6.out with rdr := HI6.out.rdr.le (by omega) }⟩
              rcases List.mem_append.1 hz with hz | hz
              · exact HXL.out z hz
              · rw [List.mem_singleton.1 hz]; exact HYB.out
            case measure => simp [intOf]; omega
        · have hlt2' : ¬ (q : Int) < 1 + (x4 : Int) := by omega
          have c0 := HI4.out.c0
          obtain ⟨va, vc, rfl⟩ := HI4.out.own.shape
          have c1 := HI4.out.c1
          have HG4 := Lib.hid (HG2.out.trans HI4.out.grown)
          have HO4 := Lib.hid (HO2.out.picked HI4.out.grown hbl)
          have HOI : Hid (OwnI w4 w.heap.size (bsl ((y, xs), va, vc)) xs) := Lib.hid (HI4.out.own.base HS2.out)
          have HAP : Hid (∀ g, (bsl ((y, xs), va, vc)).ownBlock = some g → (Value.slice la l.length lc).ownBlock ≠ some g) := Lib.hid fun g hg e => by
            have h1 := (HI4.out.own.lt hg).1
            have h2 := (HO2.out.1.lt e).2
            omega
          have HRW := Lib.hid HI4.out.rdr
          have HBL : Hid (BxL (y, xs)) := Lib.hid ⟨by show xs.length ≤ 5; rw [HLQ.out]; omega, HY.out, HXL.out⟩
          go_wp2_with (at_builtin; refine wpList_app_box _ rfl _ _ rfl w.heap.size _ l rfl HO4.out.1 ((y, xs), va, vc) _ _ rfl (by simp) ?c1 ?c2 ?_)
          case c1 => have := HLJ.out; omega
          case c2 => exact HG4.out.size
          intro v' w6 ho hgr hbk
          have HO6 := Lib.hid (HO4.out.snoc HOI.out HAP.out ho hgr hbk)
          have HG6 := Lib.hid (World.grownBy.andThen (World.grownBy.trans HG4.out (World.grownBy_alloc _ _ _)) hgr (fun z hz => .inl (HO4.out.1.lt hz).1))
          have HR6 := Lib.hid ((HRW.out.below ((Below.refl _ _).alloc (Nat.le_refl _) _)).grown hgr (fun z hz => by have := (HO4.out.1.lt hz).1; omega))
          clear ho hgr hbk c0 c1
          go_wp2_with fail
          go_roundw
          case rel =>
            refine ⟨j + 1, l ++ [((y, xs), va, vc)], by omega, by go_num, by rw [List.length_append, HLJ.out]; rfl, Lib.hid fun z hz => ?_, Lib.hid (HR6.out.le (by omega)), HG6, HO6⟩
            rcases List.mem_append.1 hz with hz | hz
            · exact HL.out z hz
            · rw [List.mem_singleton.1 hz]; exact HBL.out
          case measure => simp [intOf]; omega
    · have hlt' : ¬ (j : Int) < (x : Int) := by omega
      go_wp2_with fail
      refine (pick_rdr b _ _ _ HR1.out (by omega) (by omega) (by omega)).mono ?_
      rintro e w2 ⟨x2, hx2, rfl, hg2, hR2⟩
      have HR2 := Lib.hid hR2
      have HG2 := Lib.hid (HG1.out.trans hg2)
      have HO2 := Lib.hid (HO1.out.picked hg2 hbl)
      clear hg2 hR2
      by_cases h0 : x2 = 0
      · subst h0
        go_wp2_with fail
        refine (pick_rdr b _ _ _ HR2.out (by omega) (by omega) (by omega)).mono ?_
        rintro e w3 ⟨x3, hx3, rfl, hg3, hR3⟩
        have HR3 := Lib.hid hR3
        have HG3 := Lib.hid (HG2.out.trans hg3)
        have HO3 := Lib.hid (HO2.out.picked hg3 hbl)
        have hw3 : IntKind.i64.wrap (1 + (x3 : Int)) = 1 + (x3 : Int) := IntWalk.i64_in _ (by omega)
        clear hg3 hR3
        go_wp2_with fail
        refine (pick_rdr b _ _ _ HR3.out (by omega) (by omega) (by omega)).mono ?_
        rintro e w4 ⟨x4, hx4, rfl, hg4, hR4⟩
        have HR4 := Lib.hid hR4
        have HG4 := Lib.hid (HG3.out.trans hg4)
        have HO4 := Lib.hid (HO3.out.picked hg4 hbl)
        clear hg4 hR4
        obtain ⟨zs, hzl, hzs⟩ : ∃ zs : List Int, zs.length = x4 ∧ List.replicate zs.length 0 = zs := ⟨List.replicate x4 0, by simp, by simp⟩
        subst hzl
        have HZS := Lib.hid hzs
        clear hzs
        go_wp2_with (at_make; refine wpList_make_full _ rfl _ _ 24 rfl w4.heap.size 3 i0 (.int .i64 0) 1 Try.underlying24 HI0.out hz0 hz1 .i64 .i64 _ _ zs.length rfl rfl rfl rfl (by rw [hz2]; omega) (by unfold maxLen; omega) (by simp) ?_)
        intro w5 hown hgrow
        have hO5 : OwnI w5 w4.heap.size (.slice (some ⟨w4.heap.size, 0, none⟩) zs.length zs.length) zs := by
          have hinit : (madeCells #[Value.int .i64 0] zs.length).toList = zs.map (Value.int .i64) := by
            rw [toList_madeCells_one, ← HZS.out]; simp
          rw [hinit] at hown
          exact hown
        have hb5 : Below w4.heap.size w4 w5 := (Below.refl _ _).grown hgrow (Nat.le_refl _) (fun k hk => by cases hk)
        have HO5 := Lib.hid (HO4.out.below hb5)
        have HR5 := Lib.hid (HR4.out.below hb5)
        have HG5 : Hid (w.grownBy w5 (some b)) := Lib.hid (HG4.out.trans ⟨hb5.os, hb5.tape, hb5.output, hb5.size, fun i hi _ => hb5.block i hi⟩)
        have HOI : Hid (OwnI w5 w.heap.size (bsl ((1 + (x3 : Int), zs), some ⟨w4.heap.size, 0, none⟩, zs.length)) zs) := Lib.hid (hO5.base HG4.out.size)
        have HAP : Hid (∀ g, (bsl ((1 + (x3 : Int), zs), some ⟨w4.heap.size, 0, none⟩, zs.length)).ownBlock = some g → (Value.slice la l.length lc).ownBlock ≠ some g) := Lib.hid fun g hg e => by
          have h2 := (HO4.out.1.lt e).2
          simp only [bsl, Value.ownBlock] at hg
          injection hg with hg; omega
        have HBL : Hid (BxL (1 + (x3 : Int), zs)) := Lib.hid ⟨by show zs.length ≤ 5; omega, by unfold abnd; show -1 ≤ 1 + (x3 : Int) ∧ 1 + (x3 : Int) ≤ 21; omega, fun z hz => by have hz : z ∈ zs := hz; rw [← HZS.out] at hz; have := List.eq_of_mem_replicate hz; unfold abnd; omega⟩
        clear hown hgrow hO5 hb5
        go_wp2_with (at_builtin; refine wpList_app_box _ rfl _ _ rfl w.heap.size _ l rfl HO5.out.1 ((1 + (x3 : Int), zs), some ⟨w4.heap.size, 0, none⟩, zs.length) _ _ rfl (by simp) ?c1 ?c2 ?_)
        case c1 => have := HLJ.out; omega
        case c2 => exact HG5.out.size
        intro v' w6 ho hgr hbk
        have HO6 := Lib.hid (HO5.out.snoc HOI.out HAP.out ho hgr hbk)
        have HG6 := Lib.hid (World.grownBy.andThen (World.grownBy.trans HG5.out (World.grownBy_alloc _ _ _)) hgr (fun z hz => .inl (HO5.out.1.lt hz).1))
        have HR6 := Lib.hid ((HR5.out.below ((Below.refl _ _).alloc (Nat.le_refl _) _)).grown hgr (fun z hz => by have := (HO5.out.1.lt hz).1; omega))
        clear ho hgr hbk
        go_wp2_with fail
        go_ret
        refine ⟨v', l ++ [((1 + (x3 : Int), zs), some ⟨w4.heap.size, 0, none⟩, zs.length)], by rw [List.length_append, HLJ.out]; simp; omega, fun z hz => ?_, rfl, HG6.out, HR6.out.le (by omega), HO6.out⟩
        rcases List.mem_append.1 hz with hz | hz
        · exact HL.out z hz
        · rw [List.mem_singleton.1 hz]; exact HBL.out
      · have hb : ((x2 : Int) == 0) = false := by rw [beq_eq_false_iff_ne]; omega
        go_wp2_with fail
        go_ret
        exact ⟨_, l, by rw [HLJ.out]; omega, HL.out, rfl, HG2.out, HR2.out.le (by omega), HO2.out⟩

end Go.Proofs.Ytakfohcnclmkbaa
