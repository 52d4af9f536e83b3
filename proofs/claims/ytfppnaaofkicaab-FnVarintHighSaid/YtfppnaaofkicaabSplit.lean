/- Chapter 1: contracts of VarintSplit, the program's and the model's. -/
import Derived.Test.YtfppnaaofkicaabMin
import Derived.Lib.Strings
namespace Go.Proofs.Ytfppnaaofkicaab
open Go.RowKit
set_option linter.unusedVariables false
set_option linter.unusedSimpArgs false

/-- What is split off, number by number; f: more than the bytes that are left. -/
def spl : Nat → ByteArray → List Int → Option (List Int)
  | 0, _, acc => some acc
  | f + 1, r, acc => if r.size = 0 then some acc else if dsz r = 0 ∨ acc.length = 20 then none else spl f (r.extract (dsz r).toNat r.size) (acc ++ [dval r])
def splF (s : ByteArray) : Option (List Int) := spl (s.size + 1) s []
def szOf : Value → Nat
  | .string r => r.size
  | _ => 0
theorem cut_size (r : ByteArray) (k : Nat) : (r.extract k r.size).size = r.size - k := by simp
theorem dsz_nonneg (s : ByteArray) : 0 ≤ dsz s := by have := dsz_cases s; omega

theorem spl_len : ∀ (f : Nat) (r : ByteArray) (acc zs : List Int), acc.length ≤ 20 → spl f r acc = some zs → zs.length ≤ 20
  | 0, r, acc, zs, h, e => by rw [spl] at e; injection e with e; subst e; exact h
  | f + 1, r, acc, zs, h, e => by
    rw [spl] at e
    split at e
    · injection e with e; subst e; exact h
    · split at e
      · cases e
      · rename_i hh
        exact spl_len f _ _ _ (by simp; omega) e
theorem splF_len (s : ByteArray) : ((splF s).getD []).length ≤ 20 := by
  cases h : splF s with
  | none => simp
  | some zs => exact spl_len _ _ _ _ (by simp) h

def SplitPost (w : World) (s : ByteArray) (e : Ending) (w' : World) : Prop :=
  ∃ v : Value, e = .returned (.tuple #[v, .bool (splF s).isSome]) ∧ Below w.heap.size w w' ∧ w'.ownsRow w.heap.size 3 1 v ((splF s).getD []).length (((splF s).getD []).map (Value.int .i64)) ∧ v ≠ .slice none 0 0

theorem try_infoInt : (Try.prog.info? 3).map (fun i => (i.zero, i.size, i.bytes)) = some (some (.int .i64 0), 1, 8) := by kernel_rfl

theorem ownsRow_empty_at (B : Nat) (w : World) (h : B ≤ w.heap.size) : (w.alloc (.cells #[] 3)).ownsRow B 3 1 (.slice (some ⟨w.heap.size, 0, none⟩) 0 0) 0 [] :=
  ⟨rfl, .inr ⟨w.heap.size, 0, #[], rfl, h, by show (w.heap.push _)[w.heap.size]? = _; simp, Nat.le_refl _, by unfold maxLen; omega, rfl, rfl⟩⟩
theorem ownsRow_empty (w : World) : (w.alloc (.cells #[] 3)).ownsRow w.heap.size 3 1 (.slice (some ⟨w.heap.size, 0, none⟩) 0 0) ([] : List Int).length (([] : List Int).map (Value.int .i64)) := ownsRow_empty_at _ w (Nat.le_refl _)
theorem ownsRow_shape {w : World} {B n : Nat} {e : TypeId} {k : Nat} {v : Value} {xs : List Value} (h : w.ownsRow B e k v n xs) : ∃ a c, v = .slice a n c := by
  obtain ⟨_, h | ⟨g, c, cur, h, _⟩⟩ := h
  · exact ⟨none, 0, by rw [h.1, h.2]⟩
  · exact ⟨_, c, h⟩
theorem own_below {w w' : World} {B n : Nat} {e : TypeId} {k : Nat} {v : Value} {xs : List Value} (h : w.ownsRow B e k v n xs) (hb : Below w.heap.size w w') : w'.ownsRow B e k v n xs := by
  obtain ⟨h0, h | ⟨g, c, cur, h1, h2, h3, h4⟩⟩ := h
  · exact ⟨h0, .inl h⟩
  · refine ⟨h0, .inr ⟨g, c, cur, h1, h2, ?_, h4⟩⟩
    rw [hb.block g (by have := (Array.getElem?_eq_some_iff.1 h3).1; exact this)]; exact h3
theorem below_own {w w1 w2 : World} {B n : Nat} {e : TypeId} {k : Nat} {v : Value} {xs : List Value} {o : Obj} (h : Below B w w1) (hown : w1.ownsRow B e k v n xs) (hB : B ≤ w1.heap.size) (hg : (w1.alloc o).grownBy w2 v.ownBlock) : Below B w w2 := by
  refine (h.alloc hB o).grown hg (by simp; omega) fun j hj => ?_
  obtain ⟨_, hv | ⟨g, c, cur, h1, h2, _⟩⟩ := hown
  · rw [hv.1] at hj; cases hj
  · rw [h1] at hj; injection hj with hj; simp at hj; omega

theorem own_ne {w1 w2 : World} {B B2 n m : Nat} {e : TypeId} {k : Nat} {v u : Value} {xs ys : List Value} (hu : w1.ownsRow B e k u n xs) (hv : w2.ownsRow B2 e k v m ys) (hB : w1.heap.size ≤ B2) : u.ownBlock = none ∨ u.ownBlock ≠ v.ownBlock := by
  cases hq : u.ownBlock with
  | none => exact .inl rfl
  | some g =>
    right
    have := hu.lt g hq
    intro e
    have := hv.lt g e.symm
    omega

theorem spl_step {s r : ByteArray} {f : Nat} {acc : List Int} (h : spl f r acc = splF s) (hf : r.size < f) (h0 : r.size ≠ 0) (hd : dsz r ≠ 0) (ha : acc.length < 20) : spl (f - 1) (r.extract (dsz r).toNat r.size) (acc ++ [dval r]) = splF s := by
  rw [← h]
  cases f with
  | zero => omega
  | succ f => rw [spl, if_neg h0, if_neg (by omega)]; rfl
theorem SplitPost.yes {w w1 : World} {s r : ByteArray} {f : Nat} {acc : List Int} {v : Value} (h : spl f r acc = splF s) (hf : r.size < f) (h0 : r.size = 0) (hb : Below w.heap.size w w1) (ho : w1.ownsRow w.heap.size 3 1 v acc.length (acc.map (Value.int .i64))) (hnn : v ≠ .slice none 0 0) :
    SplitPost w s (.returned (.tuple #[v, .bool true])) w1 := by
  have e : splF s = some acc := by
    rw [← h]; cases f with
    | zero => omega
    | succ f => rw [spl, if_pos h0]
  exact ⟨v, by rw [e]; rfl, hb, by rw [e]; exact ho, hnn⟩
theorem SplitPost.no {w w1 : World} {s r : ByteArray} {f : Nat} {acc : List Int} (h : spl f r acc = splF s) (hf : r.size < f) (h0 : r.size ≠ 0) (hd : dsz r = 0 ∨ acc.length = 20) (hb : Below w.heap.size w w1) :
    SplitPost w s (.returned (.tuple #[.slice (some ⟨w1.heap.size, 0, none⟩) 0 0, .bool false])) (w1.alloc (.cells #[] 3)) := by
  have e : splF s = none := by
    rw [← h]; cases f with
    | zero => omega
    | succ f => rw [spl, if_neg h0, if_pos hd]
  exact ⟨_, by rw [e]; rfl, hb.alloc hb.size _, by rw [e]; exact ownsRow_empty_at _ _ hb.size, by simp⟩

set_option maxHeartbeats 1000000 in
theorem isplit_any (s : ByteArray) (w : World) (hs : s.size ≤ maxLen) : Calls Try.prog 12 #[.string s] w (SplitPost w s) := by
  have hs' := hs
  have HM := Lib.hid hs'
  clear hs'
  unfold maxLen at hs
  obtain ⟨i0, hi, hz0, hz1, hz2⟩ := info_parts try_infoInt
  have HI := Lib.hid hi
  clear hi
  go_enter Try.func12, Try.ntmps12
  go_wp2_with fail
  go_loopw [0, 4] (fun sv lv wr => ∃ (f : Nat) (r : ByteArray) (acc : List Int), sv = .string r ∧ r.size ≤ s.size ∧ r.size < f ∧ acc.length ≤ 20 ∧ Hid (spl f r acc = splF s) ∧ wr.ownsRow w.heap.size 3 1 lv acc.length (acc.map (Value.int .i64)) ∧ Below w.heap.size w wr ∧ lv ≠ .slice none 0 0) (fun sv _ _ => szOf sv)
  case atStart => exact ⟨s.size + 1, s, [], rfl, Nat.le_refl _, by omega, by simp, rfl, ownsRow_empty w, (Below.refl _ _).alloc (Nat.le_refl _) _, by simp⟩
  case round =>
    obtain ⟨f, r, acc, rfl, hr, hf, hacc, HS, hown, hb, hnn⟩ := hrel
    obtain ⟨la, lc, rfl⟩ := ownsRow_shape hown
    have HO := Lib.hid hown
    have HB := Lib.hid hb
    have HNN := Lib.hid hnn
    clear hnn
    have hrm : r.size ≤ maxLen := by unfold maxLen; omega
    have HRM := Lib.hid hrm
    clear hown hb hrm
    by_cases h0 : r.size = 0
    · have he := isEmpty_of_zero h0
      have HX := Lib.hid h0
      clear h0
      go_wp2_with fail
      go_ret2
      exact SplitPost.yes HS.out hf HX.out HB.out HO.out HNN.out
    · have he := isEmpty_of_pos (s := r) (by omega)
      have hn := dsz_nonneg r
      have hle := dsz_le r
      go_wp2_with fail
      refine (rv_any r _ HRM.out).mono ?_
      rintro e w1 ⟨rfl, rfl⟩
      by_cases hd : dsz r = 0
      · have hdb : (dsz r == 0) = true := by rw [beq_iff_eq]; exact hd
        have HD := Lib.hid hd
        have HX := Lib.hid h0
        clear hd h0
        go_wp2_with fail
        go_ret2
        exact SplitPost.no HS.out hf HX.out (.inl HD.out) HB.out
      · have hdb : (dsz r == 0) = false := by rw [beq_eq_false_iff_ne]; exact hd
        by_cases h20 : acc.length = 20
        · have hc : ((acc.length : Int) == 20) = true := by rw [beq_iff_eq]; omega
          have H20 := Lib.hid h20
          have HX := Lib.hid h0
          clear h20 hd h0
          go_wp2_with fail
          go_ret2
          exact SplitPost.no HS.out hf HX.out (.inr H20.out) HB.out
        · have hc : ((acc.length : Int) == 20) = false := by rw [beq_eq_false_iff_ne]; omega
          have hlt : acc.length < 20 := by omega
          have HX := Lib.hid h0
          have HD := Lib.hid hd
          clear h20 hd h0
          have hown1 := (HO.out)
          have hsz1 := (HB.out).size
          have HO1 := Lib.hid hown1
          clear hown1
          go_wp2_with (at_builtin; refine wpList_append_own _ rfl _ _ 24 rfl w.heap.size 3 i0 (.int .i64 0) 1 8 Try.underlying24 HI.out hz0 hz1 hz2 rfl (by decide) _ _ _ rfl (HO1.out.alloc _) ⟨wr.heap.size, 0, none⟩ 1 1 [.int .i64 (dval r)] rfl rfl ?c1 ?c2 ?c3 ?c4 ?c5 ?_)
          case c1 => exact cell_one_new _ _ _
          case c2 => intro u hu; simp at hu; subst hu; rfl
          case c3 => unfold maxLen; omega
          case c4 => omega
          case c5 => simp; omega
          intro v' w2 hown2 hgrow hiff
          have HN2 := Lib.hid (show v' ≠ .slice none 0 0 from hiff)
          clear hiff
          have hbel2 := HB.out
          have hbel3 := below_own hbel2 HO1.out (hbel2.size) hgrow
          have hstep := spl_step HS.out hf HX.out HD.out (by omega)
          have HOW := Lib.hid hown2
          have HB3 := Lib.hid hbel3
          clear hown2 hgrow hbel2 hbel3
          go_wp2_with fail
          go_roundw
          case rel => exact ⟨f - 1, _, acc ++ [dval r], rfl, by have := cut_size r (dsz r).toNat; omega, by have := cut_size r (dsz r).toNat; have := HD.out; omega, by simp; omega, hstep, by simpa using HOW.out, HB3.out, HN2.out⟩
          case measure => have := cut_size r (dsz r).toNat; have := HD.out; simp only [szOf]; omega
set_option maxHeartbeats 1000000 in
theorem ssplit_any (s : ByteArray) (w : World) (hs : s.size ≤ maxLen) : Calls Try.prog 13 #[.string s] w (SplitPost w s) := by
  have hs' := hs
  have HM := Lib.hid hs'
  clear hs'
  unfold maxLen at hs
  obtain ⟨i0, hi, hz0, hz1, hz2⟩ := info_parts try_infoInt
  have HI := Lib.hid hi
  clear hi
  go_enter Try.func13, Try.ntmps13
  go_wp2_with fail
  go_loopw [0, 4] (fun sv lv wr => ∃ (f : Nat) (r : ByteArray) (acc : List Int), sv = .string r ∧ r.size ≤ s.size ∧ r.size < f ∧ acc.length ≤ 20 ∧ Hid (spl f r acc = splF s) ∧ wr.ownsRow w.heap.size 3 1 lv acc.length (acc.map (Value.int .i64)) ∧ Below w.heap.size w wr ∧ lv ≠ .slice none 0 0) (fun sv _ _ => szOf sv)
  case atStart => exact ⟨s.size + 1, s, [], rfl, Nat.le_refl _, by omega, by simp, rfl, ownsRow_empty w, (Below.refl _ _).alloc (Nat.le_refl _) _, by simp⟩
  case round =>
    obtain ⟨f, r, acc, rfl, hr, hf, hacc, HS, hown, hb, hnn⟩ := hrel
    obtain ⟨la, lc, rfl⟩ := ownsRow_shape hown
    have HO := Lib.hid hown
    have HB := Lib.hid hb
    have HNN := Lib.hid hnn
    clear hnn
    have hrm : r.size ≤ maxLen := by unfold maxLen; omega
    have HRM := Lib.hid hrm
    clear hown hb hrm
    by_cases h0 : r.size = 0
    · have he := isEmpty_of_zero h0
      have HX := Lib.hid h0
      clear h0
      go_wp2_with fail
      go_ret2
      exact SplitPost.yes HS.out hf HX.out HB.out HO.out HNN.out
    · have he := isEmpty_of_pos (s := r) (by omega)
      have hn := dsz_nonneg r
      have hle := dsz_le r
      go_wp2_with fail
      refine (l1d_any r _ HRM.out).mono ?_
      rintro e w1 ⟨rfl, hb1⟩
      by_cases hd : dsz r = 0
      · have hdb : (dsz r == 0) = true := by rw [beq_iff_eq]; exact hd
        have HD := Lib.hid hd
        have HX := Lib.hid h0
        clear hd h0
        go_wp2_with fail
        go_ret2
        exact SplitPost.no HS.out hf HX.out (.inl HD.out) (HB.out.trans (hb1.mono HB.out.size))
      · have hdb : (dsz r == 0) = false := by rw [beq_eq_false_iff_ne]; exact hd
        by_cases h20 : acc.length = 20
        · have hc : decide (20 ≤ acc.length) = true := decide_eq_true (by omega)
          have hc' : (20 : Int) ≤ (acc.length : Int) := by omega
          have H20 := Lib.hid h20
          have HX := Lib.hid h0
          clear h20 hd h0
          go_wp2_with fail
          go_ret2
          exact SplitPost.no HS.out hf HX.out (.inr H20.out) (HB.out.trans (hb1.mono HB.out.size))
        · have hc : decide (20 ≤ acc.length) = false := decide_eq_false (by omega)
          have hc' : ¬ (20 : Int) ≤ (acc.length : Int) := by omega
          have hlt : acc.length < 20 := by omega
          have HX := Lib.hid h0
          have HD := Lib.hid hd
          clear h20 hd h0
          have hown1 := own_below (HO.out) hb1
          have hsz1 := ((HB.out.trans (hb1.mono HB.out.size))).size
          have HO1 := Lib.hid hown1
          clear hown1
          go_wp2_with (at_builtin; refine wpList_append_own _ rfl _ _ 24 rfl w.heap.size 3 i0 (.int .i64 0) 1 8 Try.underlying24 HI.out hz0 hz1 hz2 rfl (by decide) _ _ _ rfl (HO1.out.alloc _) ⟨w1.heap.size, 0, none⟩ 1 1 [.int .i64 (dval r)] rfl rfl ?c1 ?c2 ?c3 ?c4 ?c5 ?_)
          case c1 => exact cell_one_new _ _ _
          case c2 => intro u hu; simp at hu; subst hu; rfl
          case c3 => unfold maxLen; omega
          case c4 => omega
          case c5 => simp; omega
          intro v' w2 hown2 hgrow hiff
          have HN2 := Lib.hid (show v' ≠ .slice none 0 0 from hiff)
          clear hiff
          have hbel2 := (HB.out.trans (hb1.mono HB.out.size))
          have hbel3 := below_own hbel2 HO1.out (hbel2.size) hgrow
          have hstep := spl_step HS.out hf HX.out HD.out (by omega)
          have HOW := Lib.hid hown2
          have HB3 := Lib.hid hbel3
          clear hown2 hgrow hbel2 hbel3
          go_wp2_with fail
          go_roundw
          case rel => exact ⟨f - 1, _, acc ++ [dval r], rfl, by have := cut_size r (dsz r).toNat; omega, by have := cut_size r (dsz r).toNat; have := HD.out; omega, by simp; omega, hstep, by simpa using HOW.out, HB3.out, HN2.out⟩
          case measure => have := cut_size r (dsz r).toNat; have := HD.out; simp only [szOf]; omega

end Go.Proofs.Ytfppnaaofkicaab
