/- A drawn register. -/
import Derived.Test.YtjabejljgoafiaaDrTic
import Derived.Test.YtjabejljgoafiaaSTry
import Derived.Deep.RegionHeld3
import Derived.StillTailTactics
import Derived.Lib.AppendZeros
namespace Go.Proofs.Ytjabejljgoafiaa
open Go.RowKit
set_option linter.unusedVariables false
set_option linter.unusedSimpArgs false

/-- Where the drawing of a register stands: the reader's block b, the result's, the variable's, its row. -/
structure RD (w W : World) (b k rb ob : Nat) (n : Int) (s : Value) (l : List Tic) : Prop where
  gr : w.grownBy W (some b)
  rd : Rdr W b k
  zer : RgV W rb 0 (.slice none 0 0)
  zf : Soft W rb
  out : RgV W ob n s
  of : Soft W ob
  own : OwnTc W w.heap.size s l
  ne : s.ownBlock ≠ none ∧ s.ownBlock ≠ some rb ∧ s.ownBlock ≠ some ob
  ord : b < w.heap.size ∧ w.heap.size ≤ rb ∧ rb < ob
theorem RD.below {w W W' : World} {b k rb ob : Nat} {n : Int} {s : Value} {l : List Tic} (h : RD w W b k rb ob n s l) (hb : Below W.heap.size W W') : RD w W' b k rb ob n s l :=
  ⟨h.gr.trans (grown_below hb _), h.rd.below hb, h.zer.below hb, h.zf.below hb h.zer.lt, h.out.below hb, h.of.below hb h.out.lt, h.own.below hb, h.ne, h.ord⟩
theorem RD.pick {w W W' : World} {b k k' rb ob : Nat} {n : Int} {s : Value} {l : List Tic} (h : RD w W b k rb ob n s l) (hg : W.grownBy W' (some b)) (hR : Rdr W' b k') : RD w W' b k' rb ob n s l := by
  obtain ⟨o1, o2, o3⟩ := h.ord
  have n1 : some rb ≠ some b := fun e => by have := Option.some.inj e; omega
  have n2 : some ob ≠ some b := fun e => by have := Option.some.inj e; omega
  exact ⟨h.gr.trans hg, hR, h.zer.kept hg n1, h.zf.kept hg h.zer.lt n1, h.out.kept hg n2, h.of.kept hg h.out.lt n2, h.own.picked hg o1, h.ne, h.ord⟩
theorem RD.store {w W : World} {b k rb ob : Nat} {n n' : Int} {s s' : Value} {l l' : List Tic} (h : RD w W b k rb ob n s l) (ho : OwnTc W w.heap.size s' l') (hn : s'.ownBlock ≠ none ∧ s'.ownBlock ≠ some rb ∧ s'.ownBlock ≠ some ob) :
    RD w ((W.setCell ⟨ob, 0, none⟩ (.int .i64 n')).setCell ⟨ob, 1, none⟩ s') b k rb ob n' s' l' := by
  obtain ⟨o1, o2, o3⟩ := h.ord
  exact ⟨grown_set (grown_set h.gr (by omega) _ _) (by omega) _ _, (h.rd.grown (Lib.grownBy_setCell _ _ _ _) (fun r e => by have := Option.some.inj e; omega)).grown (Lib.grownBy_setCell _ _ _ _) (fun r e => by have := Option.some.inj e; omega), (h.zer.far (by omega)).far (by omega), (h.zf.set _ _).set _ _, (h.out.set0 n').set1 s', (h.of.set _ _).set _ _, OwnTc.far (OwnTc.far ho hn.2.2) hn.2.2, hn, h.ord⟩
theorem RD.store0 {w W : World} {b k rb ob : Nat} {n n' : Int} {s : Value} {l : List Tic} (h : RD w W b k rb ob n s l) : RD w (W.setCell ⟨ob, 0, none⟩ (.int .i64 n')) b k rb ob n' s l := by
  obtain ⟨o1, o2, o3⟩ := h.ord
  exact ⟨grown_set h.gr (by omega) _ _, h.rd.grown (Lib.grownBy_setCell _ _ _ _) (fun r e => by have := Option.some.inj e; omega), h.zer.far (by omega), h.zf.set _ _, h.out.set0 n', h.of.set _ _, OwnTc.far h.own h.ne.2.2, h.ne, h.ord⟩
theorem RD.store1 {w W W' : World} {b k rb ob : Nat} {n : Int} {s s' : Value} {l l' : List Tic} (h : RD w W b k rb ob n s l) (hg : W.grownBy W' s.ownBlock) (ho : OwnTc W' w.heap.size s' l') (hn : s'.ownBlock = s.ownBlock ∨ s'.ownBlock = some W.heap.size) :
    RD w (W'.setCell ⟨ob, 1, none⟩ s') b k rb ob n s' l' := by
  obtain ⟨o1, o2, o3⟩ := h.ord
  obtain ⟨n0, n1, n2⟩ := h.ne
  have lz := h.zer.lt
  have lo := h.out.lt
  have hn' : s'.ownBlock ≠ none ∧ s'.ownBlock ≠ some rb ∧ s'.ownBlock ≠ some ob := by
    rcases hn with e | e
    · rw [e]; exact h.ne
    · rw [e]; exact ⟨by simp, fun e => by have := Option.some.inj e; omega, fun e => by have := Option.some.inj e; omega⟩
  have hbs : some b ≠ s.ownBlock := fun e => by have := (World.ownsRow.lt h.own b e.symm).1; omega
  have gr' : w.grownBy W' (some b) := by
    refine ⟨hg.os.trans h.gr.os, hg.tape.trans h.gr.tape, hg.output.trans h.gr.output, Nat.le_trans h.gr.size hg.size, fun k hk hr => ?_⟩
    exact (hg.block k (Nat.lt_of_lt_of_le hk h.gr.size) (fun e => by have := (World.ownsRow.lt h.own k e.symm).1; omega)).trans (h.gr.block k hk hr)
  have rd' : Rdr W' b k := h.rd.grown hg (fun r e => by have := (World.ownsRow.lt h.own r e).1; omega)
  have zer' := h.zer.kept hg (fun e => n1 e.symm)
  have zf' := h.zf.kept hg lz (fun e => n1 e.symm)
  have out' := h.out.kept hg (fun e => n2 e.symm)
  have of' := h.of.kept hg lo (fun e => n2 e.symm)
  exact ⟨grown_set gr' (by omega) _ _, rd'.grown (Lib.grownBy_setCell _ _ _ _) (fun r e => by have := Option.some.inj e; omega), zer'.far (by omega), zf'.set _ _, out'.set1 s', of'.set _ _, OwnTc.far ho hn'.2.2, hn', h.ord⟩
theorem RD.le {w W : World} {b k k' rb ob : Nat} {n : Int} {s : Value} {l : List Tic} (h : RD w W b k rb ob n s l) (hk : k ≤ k') : RD w W b k' rb ob n s l :=
  ⟨h.gr, h.rd.le hk, h.zer, h.zf, h.out, h.of, h.own, h.ne, h.ord⟩
/-- The walk's end: the variable is laid into the result. -/
theorem RD.fin {w W : World} {b k rb ob : Nat} {n : Int} {s : Value} {l : List Tic} (h : RD w W b k rb ob n s l) :
    RgV ((W.setCell ⟨rb, 0, none⟩ (.int .i64 n)).setCell ⟨rb, 1, none⟩ s) rb n s ∧ w.grownBy ((W.setCell ⟨rb, 0, none⟩ (.int .i64 n)).setCell ⟨rb, 1, none⟩ s) (some b) ∧ Rdr ((W.setCell ⟨rb, 0, none⟩ (.int .i64 n)).setCell ⟨rb, 1, none⟩ s) b k ∧ OwnTc ((W.setCell ⟨rb, 0, none⟩ (.int .i64 n)).setCell ⟨rb, 1, none⟩ s) w.heap.size s l := by
  obtain ⟨o1, o2, o3⟩ := h.ord
  exact ⟨(h.zer.set0 n).set1 s, grown_set (grown_set h.gr (by omega) _ _) (by omega) _ _, (h.rd.grown (Lib.grownBy_setCell _ _ _ _) (fun r e => by have := Option.some.inj e; omega)).grown (Lib.grownBy_setCell _ _ _ _) (fun r e => by have := Option.some.inj e; omega), OwnTc.far (OwnTc.far h.own h.ne.2.1) h.ne.2.1⟩
theorem regok_draw {n i t : Int} {l : List Tic} (h : regok (n, l)) (h1 : 12 ≤ n) (h2 : n ≤ 91) (h3 : 0 ≤ i ∧ i < 8) : regok (n, (rtry (n, l) (i, t)).1) := by
  by_cases k : trec n (i, t)
  · exact rtry_ok h ⟨⟨h3.1, by show i ≤ 99; omega⟩, ⟨by show 0 ≤ t; have : n - 10 ≤ t := k.1; omega, by show t ≤ 999; have : t ≤ n := k.2; omega⟩⟩
  · rw [rtry_no (.inl k)]; exact h
theorem RD.far {w W : World} {b k rb ob c : Nat} {n : Int} {s : Value} {l : List Tic} (h : RD w W b k rb ob n s l) (hc : w.heap.size ≤ c) (h1 : c ≠ rb) (h2 : c ≠ ob) (h3 : s.ownBlock ≠ some c) (i : Nat) (v : Value) : RD w (W.setCell ⟨c, i, none⟩ v) b k rb ob n s l := by
  obtain ⟨o1, o2, o3⟩ := h.ord
  exact ⟨grown_set h.gr hc _ _, h.rd.grown (Lib.grownBy_setCell _ _ _ _) (fun r e => by have := Option.some.inj e; omega), h.zer.far h1, h.zf.set _ _, h.out.far h2, h.of.set _ _, OwnTc.far h.own h3, h.ne, h.ord⟩
/-- A register drawn, in a variable of its own at xb. -/
structure RX (w W : World) (b k rb ob xb : Nat) (n : Int) (v : Value) (m : List Tic) : Prop where
  x : RgV W xb n v
  own : OwnTc W w.heap.size v m
  ne : v.ownBlock ≠ none ∧ v.ownBlock ≠ some rb ∧ v.ownBlock ≠ some ob
theorem RX.late {w W W9 : World} {b k rb ob : Nat} {n : Int} {s v : Value} {l m : List Tic} (h : RD w W9 b k rb ob n s l) (hw : w.heap.size ≤ W.heap.size) (hW : rb < W.heap.size ∧ ob < W.heap.size) (ho : OwnTc W9 W.heap.size v m) (hn : v.ownBlock ≠ none) (T : TypeId) :
    RX w (W9.alloc (.cells #[.int .i64 n, v] T)) b k rb ob W9.heap.size n v m ∧ RD w (W9.alloc (.cells #[.int .i64 n, v] T)) b k rb ob n s l := by
  have U : Below W9.heap.size W9 (W9.alloc (.cells #[.int .i64 n, v] T)) := (Below.refl _ _).alloc (Nat.le_refl _) _
  exact ⟨⟨RgV.new W9 n v T, (OwnTc.lower ho hw).below U, ⟨hn, fun e => by have := (World.ownsRow.lt ho _ e).1; omega, fun e => by have := (World.ownsRow.lt ho _ e).1; omega⟩⟩, h.below U⟩
theorem RX.early {w W W9 : World} {b k rb ob xb : Nat} {n n1 : Int} {s v s1 : Value} {l m : List Tic} (h : RD w W9 b k rb ob n s l) (hx : RgV W9 xb n1 s1) (hw : w.heap.size ≤ W.heap.size) (hW : rb < W.heap.size ∧ ob < W.heap.size) (ho : OwnTc W9 W.heap.size v m) (hn : v.ownBlock ≠ none) (hxw : w.heap.size ≤ xb ∧ xb < W.heap.size ∧ xb ≠ rb ∧ xb ≠ ob ∧ s.ownBlock ≠ some xb) :
    RX w ((W9.setCell ⟨xb, 0, none⟩ (.int .i64 n)).setCell ⟨xb, 1, none⟩ v) b k rb ob xb n v m ∧ RD w ((W9.setCell ⟨xb, 0, none⟩ (.int .i64 n)).setCell ⟨xb, 1, none⟩ v) b k rb ob n s l := by
  obtain ⟨x1, x2, x3, x4, x5⟩ := hxw
  have hvx : v.ownBlock ≠ some xb := fun e => by have := (World.ownsRow.lt ho _ e).1; omega
  exact ⟨⟨(hx.set0 n).set1 v, OwnTc.far (OwnTc.far (OwnTc.lower ho hw) hvx) hvx, ⟨hn, fun e => by have := (World.ownsRow.lt ho _ e).1; omega, fun e => by have := (World.ownsRow.lt ho _ e).1; omega⟩⟩, (h.far x1 x3 x4 x5 _ _).far x1 x3 x4 x5 _ _⟩
def DrewRg (w : World) (b k : Nat) (e : Ending) (w' : World) : Prop :=
  ∃ (n : Int) (s : Value) (l : List Tic), e = .returned (.agg #[.int .i64 n, s]) ∧ (-1 ≤ n ∧ n ≤ 1000) ∧ l.length ≤ 9 ∧ OwnTc w' w.heap.size s l ∧ s.ownBlock ≠ none ∧ w.grownBy w' (some b) ∧ Rdr w' b (k + 60)

theorem RD.start {w W : World} {b k : Nat} (n : Int) (hg : (w.alloc (.cells #[.int .i64 0, .slice none 0 0] 25)).grownBy W (some b)) (hR : Rdr W b k) (hb : b < w.heap.size) :
    RD w ((W.alloc (.cells #[] 27)).alloc (.cells #[.int .i64 n, .slice (some ⟨W.heap.size, 0, none⟩) 0 0] 25)) b k w.heap.size (W.heap.size + 1) n (.slice (some ⟨W.heap.size, 0, none⟩) 0 0) [] := by
  have U0 : Below w.heap.size w (w.alloc (.cells #[.int .i64 0, .slice none 0 0] 25)) := (Below.refl _ _).alloc (Nat.le_refl _) _
  have hs0 : (w.alloc (.cells #[.int .i64 0, .slice none 0 0] 25)).heap.size = w.heap.size + 1 := by simp
  have hs1 : w.heap.size + 1 ≤ W.heap.size := by rw [← hs0]; exact hg.size
  have e1 : (W.alloc (.cells #[] 27)).heap.size = W.heap.size + 1 := by simp
  have n1 : some w.heap.size ≠ some b := fun e => by have := Option.some.inj e; omega
  have Z := (RgV.new w 0 (.slice none 0 0) 25).kept hg n1
  have F := (Soft.new w #[.int .i64 0, .slice none 0 0] 25).kept hg (by omega) n1
  have UA : Below W.heap.size W (W.alloc (.cells #[] 27)) := (Below.refl _ _).alloc (Nat.le_refl _) _
  have UB : Below W.heap.size W ((W.alloc (.cells #[] 27)).alloc (.cells #[.int .i64 n, .slice (some ⟨W.heap.size, 0, none⟩) 0 0] 25)) := UA.alloc (by omega) _
  have O : OwnTc (W.alloc (.cells #[] 27)) w.heap.size (.slice (some ⟨W.heap.size, 0, none⟩) 0 0) [] := own_new _ 2 w.heap.size W (by omega)
  refine ⟨((grown_below U0 _).trans hg).trans (grown_below UB _), hR.below UB, Z.below UB, F.below UB Z.lt, ?_, ?_, O.below ((Below.refl _ _).alloc (Nat.le_refl _) _), ⟨by simp [Value.ownBlock], fun e => by have := Option.some.inj e; simp only at this; omega, fun e => by have := Option.some.inj e; simp only at this; omega⟩, ⟨hb, Nat.le_refl _, by omega⟩⟩
  · rw [← e1]; exact RgV.new _ n _ _
  · rw [← e1]; exact Soft.new _ _ _

set_option maxRecDepth 100000 in
set_option maxHeartbeats 8000000 in
theorem drrg_any (b k : Nat) (w : World) (R : Rdr w b k) (hk : k ≤ 890000) :
    Calls Try.prog 32 #[.pointer (some ⟨b, 0, none⟩)] w (DrewRg w b k) := by
  have hbl : b < w.heap.size := R.1
  have R0 := Lib.hid (R.below ((Below.refl _ _).alloc (Nat.le_refl _) (.cells #[.int .i64 0, .slice none 0 0] 25)))
  clear R
  go_enter Try.func32, Try.ntmps32
  go_wp2_with fail
  refine (pick_rdr b k _ _ R0.out (by omega) (by omega) (by omega)).mono ?_
  rintro e w1 ⟨x, hx, rfl, hg1, R1⟩
  have hw1 : IntKind.i64.wrap (12 + (x : Int)) = 12 + (x : Int) := IntWalk.i64_in _ (by omega)
  have S0 := Lib.hid (RD.start (12 + (x : Int)) hg1 R1 hbl)
  have HRK : Hid (regok (12 + (x : Int), [])) := Lib.hid ⟨⟨by show 0 ≤ 12 + (x : Int); omega, by show 12 + (x : Int) ≤ 999; omega⟩, by simp, by simp, List.Pairwise.nil⟩
  clear hg1 R1 R0
  go_wp2_with fail
  generalize (w1.alloc (.cells #[] 27)).alloc (.cells #[.int .i64 (12 + (x : Int)), .slice (some ⟨w1.heap.size, 0, none⟩) 0 0] 25) = W0 at S0 ⊢
  generalize w1.heap.size + 1 = ob at S0 ⊢
  generalize hg0 : (Value.slice (some ⟨w1.heap.size, 0, none⟩) 0 0) = s0 at S0
  clear hg0
  obtain ⟨n, hn⟩ : ∃ n : Int, n = 12 + (x : Int) := ⟨_, rfl⟩
  have hn1 : 12 ≤ n := by omega
  have hn2 : n ≤ 91 := by omega
  rw [← hn] at S0 HRK
  clear hn hw1 hx
  go_loopw [4] (fun iv wr => ∃ (j : Nat) (s : Value) (l : List Tic), j ≤ 9 ∧ iv = .int .i64 (j : Int) ∧ Hid (regok (n, l)) ∧ Hid (RD w wr b (k + 1 + 4 * j) w.heap.size ob n s l)) (fun iv _ => 10 - (intOf iv).toNat)
  case atStart => exact ⟨0, s0, [], by omega, rfl, HRK, S0⟩
  case round =>
    obtain ⟨j, s, l, hj, rfl, HK, HD⟩ := hrel
    go_wp2_with fail
    refine (pick_rdr b _ _ _ HD.out.rd (by omega) (by omega) (by omega)).mono ?_
    rintro e w2 ⟨y, hy, rfl, hg2, R2⟩
    have HD2 := Lib.hid (HD.out.pick hg2 R2)
    clear hg2 R2 HD
    by_cases hlt : j < y
    · have hlt' : (j : Int) < (y : Int) := by omega
      have hdl := decide_eq_true hlt'
      obtain ⟨ax, cx, rfl⟩ := ownsRow_shape HD2.out.own
      obtain ⟨q0, q1⟩ := HD2.out.out
      go_upto_region 5 with fail
      go_cut [5] (fun xv wx => ∃ (xb : Nat) (v : Value) (m : List Tic), xv = .pointer (some ⟨xb, 0, none⟩) ∧ Hid (regok (n, m)) ∧ Hid (RX w wx b (k + 1 + 4 * j + 1 + 3) w.heap.size ob xb n v m) ∧ Hid (RD w wx b (k + 1 + 4 * j + 1 + 3) w.heap.size ob n (.slice ax l.length cx) l))
      case first =>
        have UZ : Below w2.heap.size w2 (w2.alloc (.cells #[.int .i64 0, .slice none 0 0] 25)) := (Below.refl _ _).alloc (Nat.le_refl _) _
        have Dd := Lib.hid (HD2.out.below (Below.refl _ _).drew)
        have De := Lib.hid (HD2.out.below UZ.drew)
        have Zx := Lib.hid ((RgV.new w2 0 (.slice none 0 0) 25).below (Below.refl _ _).drew)
        have Zf := Lib.hid ((Soft.new w2 #[.int .i64 0, .slice none 0 0] 25).below (Below.refl _ _).drew (by simp))
        have hb2 : Hid (b < w2.heap.size ∧ w.heap.size < w2.heap.size ∧ ob < w2.heap.size ∧ w.heap.size ≤ w2.heap.size) := Lib.hid ⟨HD2.out.rd.1, HD2.out.zer.lt, HD2.out.out.lt, HD2.out.gr.size⟩
        have hnb : Hid ((Value.slice ax l.length cx).ownBlock ≠ some w2.heap.size) := Lib.hid fun e => by have := (World.ownsRow.lt HD2.out.own _ e).2; omega
        have hkk : k + 1 + 4 * j + 1 ≤ 900000 := by omega
        have hnn : -2000 ≤ n ∧ n ≤ 2000 := by omega
        have kd := And.intro Dd.out.out.c0 Dd.out.out.c1
        have ke := And.intro De.out.out.c0 De.out.out.c1
        go_region_held3 (fun w' => w'.cell? ⟨ob, 0, none⟩ = some (.int .i64 n) ∧ w'.cell? ⟨ob, 1, none⟩ = some (.slice ax l.length cx)) (with_reducible first | assumption | exact kd | exact ke | exact k9b | exact k9c)
          ((first
            | (go_at_call 33; (with_reducible refine (drtic_any b _ n _ Dd.out.rd hkk hnn).mono ?_); rintro e w8 ⟨i, t, hi, ht, rfl, hg8, hR8⟩; have D8 := Lib.hid (Dd.out.pick hg8 hR8); have k8 := And.intro D8.out.out.c0 D8.out.out.c1; have D8a := Lib.hid (D8.out.below ((Below.refl _ _).alloc (Nat.le_refl _) (.cells #[.int .i64 0, .slice none 0 0] 25))); have k8a := And.intro D8a.out.out.c0 D8a.out.out.c1; have hs8 : Hid (w2.heap.size ≤ w8.heap.size) := Lib.hid hg8.size)
            | (go_at_call 33; (with_reducible refine (drtic_any b _ n _ De.out.rd hkk hnn).mono ?_); rintro e w8 ⟨i, t, hi, ht, rfl, hg8, hR8⟩; have D8 := Lib.hid (De.out.pick hg8 hR8); have k8 := And.intro D8.out.out.c0 D8.out.out.c1; have hs8 : Hid (w2.heap.size < w8.heap.size) := Lib.hid (by have := hg8.size; simp at this; omega); have Z8 := Lib.hid (Zx.out.kept hg8 (fun e => by have := Option.some.inj e; have := hb2.out; omega)); have G8 := Lib.hid (Zf.out.kept hg8 Zx.out.lt (fun e => by have := Option.some.inj e; have := hb2.out; omega)))
            | (go_at_call 42; (with_reducible refine (stry_any n i t _ l (w8.alloc (.cells #[.int .i64 0, .slice none 0 0] 25)) (Tcs.of_own D8a.out.own) D8a.out.ne.1 HK.out).mono ?_); rintro e w9 ⟨v9, rfl, hO9, hb9, hn9⟩; have D9 := Lib.hid (D8a.out.below hb9); have Z9 := Lib.hid ((RgV.new w8 0 (.slice none 0 0) 25).below hb9); have G9 := Lib.hid ((Soft.new w8 #[.int .i64 0, .slice none 0 0] 25).below hb9 (by simp)); have hE := Lib.hid (RX.early D9.out Z9.out (by have := hs8.out; have := hb2.out; simp; omega) ⟨(by have := hs8.out; have := hb2.out; simp; omega), (by have := hs8.out; have := hb2.out; simp; omega)⟩ hO9 hn9 ⟨(by have := hs8.out; have := hb2.out; omega), (by simp), (by have := hs8.out; have := hb2.out; omega), (by have := hs8.out; have := hb2.out; omega), (fun e => by have := (World.ownsRow.lt D8.out.own _ e).2; omega)⟩); obtain ⟨a9, c9, rfl⟩ := ownsRow_shape hO9; have k9 := And.intro D9.out.out.c0 D9.out.out.c1; have z0 := Z9.out.c0; have z1 := Z9.out.c1; have g0 := G9.out 0; have g1 := G9.out 1; have k9b := And.intro hE.out.2.out.c0 hE.out.2.out.c1)
            | (go_at_call 42; (with_reducible refine (stry_any n i t _ l w8 (Tcs.of_own D8.out.own) D8.out.ne.1 HK.out).mono ?_); rintro e w9 ⟨v9, rfl, hO9, hb9, hn9⟩; have D9 := Lib.hid (D8.out.below hb9); have Z9 := Lib.hid (Z8.out.below hb9); have G9 := Lib.hid (G8.out.below hb9 Z8.out.lt); have hE := Lib.hid (RX.early D9.out Z9.out (by have := hs8.out; have := hb2.out; omega) ⟨(by have := hs8.out; have := hb2.out; omega), (by have := hs8.out; have := hb2.out; omega)⟩ hO9 hn9 ⟨hb2.out.2.2.2, hs8.out, (by have := hb2.out; omega), (by have := hb2.out; omega), hnb.out⟩); obtain ⟨a9, c9, rfl⟩ := ownsRow_shape hO9; have k9 := And.intro D9.out.out.c0 D9.out.out.c1; have z0 := Z9.out.c0; have z1 := Z9.out.c1; have g0 := G9.out 0; have g1 := G9.out 1; have k9b := And.intro hE.out.2.out.c0 hE.out.2.out.c1)
            | (go_at_call 42; (with_reducible refine (stry_any n i t _ l w8 (Tcs.of_own D8.out.own) D8.out.ne.1 HK.out).mono ?_); rintro e w9 ⟨v9, rfl, hO9, hb9, hn9⟩; have D9 := Lib.hid (D8.out.below hb9); have D9a := Lib.hid (D9.out.below ((Below.refl _ _).alloc (Nat.le_refl _) (.cells #[.int .i64 0, .slice none 0 0] 25))); have k9c := And.intro D9a.out.out.c0 D9a.out.out.c1; have hE := Lib.hid (RX.late D9.out (by have := hs8.out; have := hb2.out; omega) ⟨(by have := hs8.out; have := hb2.out; omega), (by have := hs8.out; have := hb2.out; omega)⟩ hO9 hn9 25); obtain ⟨a9, c9, rfl⟩ := ownsRow_shape hO9; have k9 := And.intro D9.out.out.c0 D9.out.out.c1; have k9b := And.intro hE.out.2.out.c0 hE.out.2.out.c1)))
        all_goals
          go_wp2_with fail
          go_meet
          exact ⟨_, _, _, rfl, Lib.hid (regok_draw HK.out hn1 hn2 hi), Lib.hid hE.out.1, Lib.hid hE.out.2⟩
      case rest =>
        obtain ⟨xb, v, m, rfl, HK2, HX, HD3⟩ := hcut
        obtain ⟨av, cv, rfl⟩ := ownsRow_shape HX.out.own
        obtain ⟨x0, x1⟩ := HX.out.x
        obtain ⟨q0, q1⟩ := HD3.out.out
        have g0 := HD3.out.of 0
        have g1 := HD3.out.of 1
        have HD4 := Lib.hid ((HD3.out.store (n' := n) HX.out.own HX.out.ne).le (k' := k + 1 + 4 * (j + 1)) (by omega))
        have hy9 : j + 1 ≤ 9 := by omega
        clear HD2 HX HD3
        go_wp2_with fail
        go_roundw
        case rel => exact ⟨j + 1, _, m, hy9, by go_num, HK2, HD4⟩
        case measure => simp [intOf]; omega
    · have hlt' : ¬ (j : Int) < (y : Int) := by omega
      have hdl := decide_eq_false hlt'
      have hl8 : l.length ≤ 8 := HK.out.2.1
      go_wp2_with fail
      refine (pick_rdr b _ _ _ HD2.out.rd (by omega) (by omega) (by omega)).mono ?_
      rintro e w3 ⟨c, hc, rfl, hg3, R3⟩
      have HD3 := Lib.hid (HD2.out.pick hg3 R3)
      clear hg3 R3 HD2 HK
      by_cases hc0 : c = 0
      · have hb0 : ((c : Int) == 0) = true := by rw [hc0]; rfl
        have hb1 : ((c : Int) == 1) = false := by rw [hc0]; rfl
        clear hc0
        go_wp2_with fail
        refine (time_any b _ _ HD3.out.rd (by omega)).mono ?_
        rintro e w4 ⟨t, ht, rfl, hg4, R4⟩
        have HD4 := Lib.hid (HD3.out.pick hg4 R4)
        clear hg4 R4 HD3
        have HD5 := Lib.hid (HD4.out.store0 (n' := t))
        obtain ⟨q0, q1⟩ := HD4.out.out
        have g0 := HD4.out.of 0
        go_upto_region 12 with fail
        generalize w4.setCell ⟨ob, 0, none⟩ (.int .i64 t) = W5 at HD5 ⊢
        clear q0 q1 g0 HD4
        obtain ⟨ax, cx, rfl⟩ := ownsRow_shape HD5.out.own
        obtain ⟨q0, q1⟩ := HD5.out.out
        obtain ⟨z0, z1⟩ := HD5.out.zer
        have f0 := HD5.out.zf 0
        have f1 := HD5.out.zf 1
        have KE := Lib.hid HD5.out.fin
        have hne := Lib.hid HD5.out.ne.1
        go_wp2_with fail
        generalize (W5.setCell ⟨w.heap.size, 0, none⟩ (.int .i64 t)).setCell ⟨w.heap.size, 1, none⟩ (.slice ax l.length cx) = WF at KE ⊢
        obtain ⟨k0, k1⟩ := KE.out.1
        refine bodyPost_ret (v := .agg #[.int .i64 t, .slice ax l.length cx]) ?_ rfl ?_
        · rw [results_cell_1 rfl]; go_simp
        · exact ⟨t, _, l, rfl, ht, by omega, KE.out.2.2.2, hne.out, KE.out.2.1, KE.out.2.2.1.le (by omega)⟩
      · have hb0 : ((c : Int) == 0) = false := by rw [beq_eq_false_iff_ne]; omega
        by_cases hc1 : c = 1
        · have hb1 : ((c : Int) == 1) = true := by rw [hc1]; rfl
          clear hc0 hc1
          obtain ⟨ax, cx, rfl⟩ := ownsRow_shape HD3.out.own
          have Dd := Lib.hid (HD3.out.below (Below.refl _ _).drew)
          have hkk : k + 1 + 4 * j + 1 + 1 ≤ 900000 := by omega
          have hnn : -2000 ≤ n ∧ n ≤ 2000 := by omega
          have kd := And.intro Dd.out.out.c0 Dd.out.out.c1
          go_upto_region 11 with fail
          have q0 := HD3.out.out.c0
          have q1 := HD3.out.out.c1
          go_region_law ((first
            | ((with_reducible refine step_append_tc (w8.alloc (.cells #[.int .i64 i, .int .i64 t] 27)) ?_ (.tmp 38) (.tmp 43) ?_ w.heap.size _ l ([(i, t)]) ?_ D8a.out.own _ ?_ (srcT_one (new_cells2 w8 i t 27)) ?_ D8a.out.gr.size ?_); rfl; rfl; rfl; rfl; (simp; omega); intro aa nn cc w9 hO9 hnn9 hg9 hgg9 hnil9; have k9 := (D8a.out.out.kept hg9 (fun e => D8a.out.ne.2.2 e.symm)).c1; have g9 := (D8a.out.of.kept hg9 D8a.out.out.lt (fun e => D8a.out.ne.2.2 e.symm)) 1)
            | (go_simp; (with_reducible refine (drtic_any b _ n _ Dd.out.rd hkk hnn).mono ?_); rintro e w8 ⟨i, t, hi, ht, rfl, hg8, hR8⟩; have D8 := Lib.hid (Dd.out.pick hg8 hR8); have k8 := D8.out.out.c0; have k8' := D8.out.out.c1; have D8a := Lib.hid (D8.out.below ((Below.refl _ _).alloc (Nat.le_refl _) (.cells #[.int .i64 i, .int .i64 t] 27))); have k8a := D8a.out.out.c1)))
          all_goals
            have HE9 := Lib.hid (D8a.out.store1 hg9 hO9 hgg9)
            obtain ⟨m, hme⟩ : ∃ m, m = l ++ [(i, t)] := ⟨_, rfl⟩
            have hml : m.length ≤ 9 := by rw [hme]; simp; omega
            rw [← hme] at HE9 hnn9
            clear hme hO9 hg9 hgg9 hnil9 kd k8 k8' k8a k9 g9 q0 q1
            go_upto_region 12 with fail
            generalize w9.setCell ⟨ob, 1, none⟩ (.slice aa nn cc) = W5 at HE9 ⊢
            clear HD3 Dd D8 D8a
            obtain ⟨q0, q1⟩ := HE9.out.out
            obtain ⟨z0, z1⟩ := HE9.out.zer
            have f0 := HE9.out.zf 0
            have f1 := HE9.out.zf 1
            have KE := Lib.hid HE9.out.fin
            have hne := Lib.hid HE9.out.ne.1
            go_wp2_with fail
            generalize (W5.setCell ⟨w.heap.size, 0, none⟩ (.int .i64 n)).setCell ⟨w.heap.size, 1, none⟩ (.slice aa nn cc) = WF at KE ⊢
            obtain ⟨k0, k1⟩ := KE.out.1
            refine bodyPost_ret (v := .agg #[.int .i64 n, .slice aa nn cc]) ?_ rfl ?_
            · rw [results_cell_1 rfl]; go_simp
            · exact ⟨n, _, m, rfl, by omega, hml, KE.out.2.2.2, hne.out, KE.out.2.1, KE.out.2.2.1.le (by omega)⟩
        · have hb1 : ((c : Int) == 1) = false := by rw [beq_eq_false_iff_ne]; omega
          clear hc0 hc1
          obtain ⟨ax, cx, rfl⟩ := ownsRow_shape HD3.out.own
          obtain ⟨q0, q1⟩ := HD3.out.out
          obtain ⟨z0, z1⟩ := HD3.out.zer
          have f0 := HD3.out.zf 0
          have f1 := HD3.out.zf 1
          have KE := Lib.hid HD3.out.fin
          have hne := Lib.hid HD3.out.ne.1
          go_wp2_with fail
          generalize (w3.setCell ⟨w.heap.size, 0, none⟩ (.int .i64 n)).setCell ⟨w.heap.size, 1, none⟩ (.slice ax l.length cx) = WF at KE ⊢
          obtain ⟨k0, k1⟩ := KE.out.1
          refine bodyPost_ret (v := .agg #[.int .i64 n, .slice ax l.length cx]) ?_ rfl ?_
          · rw [results_cell_1 rfl]; go_simp
          · exact ⟨n, _, l, rfl, by omega, by omega, KE.out.2.2.2, hne.out, KE.out.2.1, KE.out.2.2.1.le (by omega)⟩

end Go.Proofs.Ytjabejljgoafiaa
