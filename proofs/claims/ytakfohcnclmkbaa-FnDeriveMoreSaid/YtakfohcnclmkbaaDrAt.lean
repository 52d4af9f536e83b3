/- Drawn atoms: l91Atom, l91Known. -/
import Derived.Test.YtakfohcnclmkbaaRdr
import Derived.Deep.AppendLies
import Derived.Test.YtakfohcnclmkbaaOwnB
import Derived.Maps.Range
namespace Go.Proofs.Ytakfohcnclmkbaa
open Go.RowKit
set_option linter.unusedVariables false
set_option linter.unusedSimpArgs false

def abnd (x : Int) : Prop := -1 ≤ x ∧ x ≤ 21
def GotAt (w : World) (b k : Nat) (e : Ending) (w' : World) : Prop := ∃ x : Int, abnd x ∧ e = .returned (.int .i64 x) ∧ w.grownBy w' (some b) ∧ Rdr w' b (k + 2)

set_option maxRecDepth 100000 in
set_option maxHeartbeats 1000000 in
theorem atom_any (b k : Nat) (w : World) (R : Rdr w b k) (hk : k ≤ 900000) :
    Calls Try.prog 40 #[.pointer (some ⟨b, 0, none⟩)] w (GotAt w b k) := by
  have R0 := Lib.hid R
  go_enter Try.func40, Try.ntmps40
  go_wp2_with fail
  refine (pick_rdr b _ _ _ R0.out (by omega) (by omega) (by omega)).mono ?_
  rintro e w1 ⟨x, hx, rfl, hg1, hR1⟩
  have HG1 := Lib.hid hg1
  have HR1 := Lib.hid hR1
  clear hg1 hR1 R
  by_cases h0 : x = 0
  · subst h0
    have hA := (Below.refl w1.heap.size w1).alloc (Nat.le_refl _) (.cells #[.int .i64 0, .int .i64 20, .int .i64 21, .int .i64 (-1)] 3)
    have HR2 := Lib.hid (HR1.out.below hA)
    have hh : (w1.alloc (.cells #[.int .i64 0, .int .i64 20, .int .i64 21, .int .i64 (-1)] 3)).heap[w1.heap.size]? = some (.cells #[.int .i64 0, .int .i64 20, .int .i64 21, .int .i64 (-1)] 3) := (MapKept.heap_alloc w1 _).1
    have HH := Lib.hid hh
    clear hA hh
    go_wp2_with fail
    refine (pick_rdr b _ _ _ HR2.out (by omega) (by omega) (by omega)).mono ?_
    rintro e w2 ⟨y, hy, rfl, hg2, hR3⟩
    have hne : w1.heap.size ≠ b := by have := HR1.out.1; omega
    have hcell : ∀ j, w2.cell? ⟨w1.heap.size, j, none⟩ = (#[Value.int .i64 0, .int .i64 20, .int .i64 21, .int .i64 (-1)])[j]? := fun j => by
      rw [World.cell?_of_block (hg2.block w1.heap.size (by simp) (fun e => hne (by injection e)))]
      unfold World.cell?; rw [HH.out]; rfl
    have HG3 := Lib.hid ((HG1.out.trans (World.grownBy_alloc w1 _ _)).trans hg2)
    have HR3 := Lib.hid hR3
    have hy4 : y = 0 ∨ y = 1 ∨ y = 2 ∨ y = 3 := by omega
    clear hg2 hR3 hne
    rcases hy4 with rfl | rfl | rfl | rfl
    · have c0 := hcell 0
      clear hcell
      go_wp2_with fail
      go_ret
      exact ⟨0, by unfold abnd; omega, rfl, HG3.out, HR3.out⟩
    · have c0 := hcell 1
      clear hcell
      go_wp2_with fail
      go_ret
      exact ⟨20, by unfold abnd; omega, rfl, HG3.out, HR3.out⟩
    · have c0 := hcell 2
      clear hcell
      go_wp2_with fail
      go_ret
      exact ⟨21, by unfold abnd; omega, rfl, HG3.out, HR3.out⟩
    · have c0 := hcell 3
      clear hcell
      go_wp2_with fail
      go_ret
      exact ⟨-1, by unfold abnd; omega, rfl, HG3.out, HR3.out⟩
  · have hb : ((x : Int) == 0) = false := by rw [beq_eq_false_iff_ne]; omega
    go_wp2_with fail
    refine (pick_rdr b _ _ _ HR1.out (by omega) (by omega) (by omega)).mono ?_
    rintro e w2 ⟨y, hy, rfl, hg2, hR3⟩
    have HG3 := Lib.hid (HG1.out.trans hg2)
    have HR3 := Lib.hid hR3
    have hw : IntKind.i64.wrap (1 + (y : Int)) = 1 + (y : Int) := IntWalk.i64_in _ (by omega)
    clear hg2 hR3
    go_wp2_with fail
    go_ret
    exact ⟨1 + (y : Int), by unfold abnd; omega, rfl, HG3.out, HR3.out⟩

theorem step_app_int {ops : Array Oper} {o : Oper} {a : Act} {K : Act → World → Prop} {Q : Exit → Act → World → Prop} {E : Prop} (W : World) (hgd : o.guard = none) (s x : Operand)
    (ho : o.op = .call { callee := .builtin .append, args := #[s, x], argTypes := #[24, 24] }) (B : Nat) (v : Value) (xs : List Int) (hs : a.eval s = v) (hown : OwnI W B v xs)
    (n : Int) (c g : Nat) (hx : a.eval x = .slice (some ⟨g, 0, none⟩) 1 c) (hn : W.cell? ⟨g, 0, none⟩ = some (.int .i64 n)) (hlen : xs.length < 1000000) (hB : B ≤ W.heap.size)
    (h : ∀ aa nn cc w', Hid (OwnI w' B (.slice aa nn cc) (xs ++ [n])) → Hid (W.grownBy w' v.ownBlock) → Hid ((Value.slice aa nn cc).ownBlock = v.ownBlock ∨ (Value.slice aa nn cc).ownBlock = some W.heap.size) → K (a.put o.dst (.slice aa nn cc)) w') :
    if Region.wanted o (yielded ops a.tmps) = true then Oper.wp Try.prog o a W K Q else E := by
  obtain ⟨i0, hi, hz0, hz1, hz2⟩ := info_parts try_infoInt
  refine step_append_lies W hgd s x 24 ho B 3 i0 (.int .i64 0) 1 8 Try.underlying24 hi hz0 hz1 hz2 rfl (by decide) v xs.length _ hs hown ⟨g, 0, none⟩ 1 c [.int .i64 n] hx rfl ?_ ?_ (by decide) ?_ ?_ ?_ W.heap.size rfl ?_
  · intro j u hu
    rw [Addr.add_lit, Nat.zero_add]
    cases j with
    | zero => simp at hu; subst hu; exact hn
    | succ j => simp at hu
  · intro u hu; simp at hu; subst hu; rfl
  · unfold maxLen; omega
  · omega
  · exact hB
  · intro gg cap w' h1 h2 h3 h4
    refine h _ _ _ w' (Lib.hid (by unfold OwnI; simpa using h1)) (Lib.hid h2) (Lib.hid ?_)
    rcases h3 with h3 | h3
    · left; rw [h3]; rfl
    · right; rw [h3]; rfl

theorem OwnI.picked {w w' : World} {B b : Nat} {v : Value} {xs : List Int} (h : OwnI w B v xs) (hg : w.grownBy w' (some b)) (hb : b < B) : OwnI w' B v xs := by
  refine h.kept hg ?_
  cases hq : v.ownBlock with
  | none => exact .inl rfl
  | some g => exact .inr fun e => by have := (h.lt hq).1; injection e; omega
theorem grown_ownI {w wx w2 : World} {b : Nat} {v : Value} {xs : List Int} {o : Obj} (h : w.grownBy wx (some b)) (hO : OwnI wx w.heap.size v xs) (hg : (wx.alloc o).grownBy w2 v.ownBlock) : w.grownBy w2 (some b) :=
  World.grownBy.andThen (World.grownBy.trans h (World.grownBy_alloc _ _ _)) hg (fun y hy => .inl (hO.lt hy).1)
theorem rdr_ownI {wx w2 : World} {b k B : Nat} {v : Value} {xs : List Int} {o : Obj} (h : Rdr wx b k) (hO : OwnI wx B v xs) (hb : b < B) (hg : (wx.alloc o).grownBy w2 v.ownBlock) : Rdr w2 b k :=
  (h.below ((Below.refl _ _).alloc (Nat.le_refl _) _)).grown hg (fun y hy => by have := (hO.lt hy).1; omega)

def GotKn (w : World) (b k s : Nat) (e : Ending) (w' : World) : Prop :=
  ∃ (v : Value) (xs : List Int), xs.length ≤ 3 ∧ (∀ x ∈ xs, abnd x) ∧ e = .returned v ∧ w.grownBy w' (some b) ∧ Rdr w' b (k + s) ∧ OwnI w' w.heap.size v xs ∧ v.ownBlock ≠ none

theorem OwnI.some_of {w : World} {B : Nat} {v : Value} {xs : List Int} {y : Int} (h : OwnI w B v (xs ++ [y])) : v.ownBlock ≠ none := by
  obtain ⟨h0, ⟨_, h1⟩ | ⟨g, c, cur, he, _⟩⟩ := h
  · simp at h1
  · rw [he]; simp [Value.ownBlock]

set_option maxRecDepth 100000 in
set_option maxHeartbeats 1000000 in
theorem known_any (b k : Nat) (w : World) (R : Rdr w b k) (hk : k ≤ 800000) :
    Calls Try.prog 32 #[.pointer (some ⟨b, 0, none⟩)] w (GotKn w b k 20) := by
  have hbl := R.1
  have R0 := Lib.hid (R.below ((Below.refl w.heap.size w).alloc (Nat.le_refl _) (.cells #[] 3)))
  clear R
  go_enter Try.func32, Try.ntmps32
  go_wp2_with fail
  go_loopw [3, 4] (fun ov iv wr => ∃ (j : Nat) (xs : List Int), j ≤ 3 ∧ iv = .int .i64 (j : Int) ∧ xs.length = j ∧ Hid (∀ x ∈ xs, abnd x) ∧ Hid (Rdr wr b (k + 4 * j)) ∧ Hid (w.grownBy wr (some b)) ∧ Hid (OwnI wr w.heap.size ov xs) ∧ Hid (ov.ownBlock ≠ none)) (fun _ iv _ => 4 - (intOf iv).toNat)
  case atStart => exact ⟨0, [], by omega, rfl, rfl, Lib.hid (by simp), R0, Lib.hid (World.grownBy_alloc _ _ _), Lib.hid (OwnI.new _ _ (Nat.le_refl _)), Lib.hid (by simp [Value.ownBlock])⟩
  case round =>
    obtain ⟨j, xs, hj, rfl, hlj, HL, HR, HG, HO, HNN⟩ := hrel
    obtain ⟨la, lc, rfl⟩ := HO.out.shape
    go_wp2_with fail
    refine (pick_rdr b _ _ _ HR.out (by omega) (by omega) (by omega)).mono ?_
    rintro e w1 ⟨x, hx, rfl, hg1, hR1⟩
    have HR1 := Lib.hid hR1
    have HG1 := Lib.hid (HG.out.trans hg1)
    have HO1 := Lib.hid (HO.out.picked hg1 hbl)
    have HLJ := Lib.hid hlj
    clear hg1 hR1 hlj
    by_cases hlt : j < x
    · have hlt' : (j : Int) < (x : Int) := by omega
      go_wp2_with fail
      refine (atom_any b _ _ HR1.out (by omega)).mono ?_
      rintro e w2 ⟨y, hy, rfl, hg2, hR2⟩
      have HR2 := Lib.hid hR2
      have HG2 := Lib.hid (HG1.out.trans hg2)
      have HO2 := Lib.hid (HO1.out.picked hg2 hbl)
      have HY := Lib.hid hy
      clear hg2 hR2 hy
      go_wp2_with (at_builtin; refine wpList_app_int _ rfl _ _ rfl w.heap.size _ xs rfl HO2.out _ _ _ rfl (by simp) ?c1 ?c2 ?_)
      case c1 => have := HLJ.out; omega
      case c2 => exact HG2.out.size
      intro v' w4 ho hgr hbk
      have HG4 := Lib.hid (grown_ownI HG2.out HO2.out hgr)
      have HR4 := Lib.hid (rdr_ownI HR2.out HO2.out hbl hgr)
      have HO4 := Lib.hid ho
      have HN4 := Lib.hid ho.some_of
      clear ho hgr hbk
      go_wp2_with fail
      go_roundw
      case rel =>
        refine ⟨j + 1, xs ++ [y], by omega, by go_num, by rw [List.length_append, HLJ.out]; rfl, Lib.hid fun z hz => ?_, Lib.hid (HR4.out.le (by omega)), HG4, HO4, HN4⟩
        rcases List.mem_append.1 hz with hz | hz
        · exact HL.out z hz
        · rw [List.mem_singleton.1 hz]; exact HY.out
      case measure => simp [intOf]; omega
    · have hlt' : ¬ (j : Int) < (x : Int) := by omega
      go_wp2_with fail
      go_ret
      exact ⟨_, xs, by rw [HLJ.out]; omega, HL.out, rfl, HG1.out, HR1.out.le (by omega), HO1.out, HNN.out⟩

end Go.Proofs.Ytakfohcnclmkbaa
