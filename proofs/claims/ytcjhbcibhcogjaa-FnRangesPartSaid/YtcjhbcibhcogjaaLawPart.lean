/- The law RangesPart: the walk. -/
import Derived.Test.YtcjhbcibhcogjaaIVal
import Derived.Test.YtcjhbcibhcogjaaCntMath
import Derived.Test.YtcjhbcibhcogjaaICat
import Derived.Test.YtcjhbcibhcogjaaDrValid
import Derived.Deep.RegionHeld3
import Derived.StillTactics
import Derived.OwnWalk
import Derived.Laws.Pointers
import Derived.Deep.AppendLies
namespace Go.Proofs.Ytcjhbcibhcogjaa
open Go.RowKit
set_option linter.unusedVariables false
set_option linter.unusedSimpArgs false

theorem owned_at {w : World} {B : Nat} {v : Value} {l : List (Int × Int)} (h : OwnRg w B v l) (hl : 0 < l.length) :
    ∃ g c, v = .slice (some ⟨g, 0, none⟩) l.length c ∧ B ≤ g ∧ g < w.heap.size ∧ l.length ≤ c ∧ c ≤ maxLen ∧
      ∀ i, i < l.length → w.cell? ⟨g, i * 2, none⟩ = some (.int .i64 (l.getD i (0, 0)).1) ∧ w.cell? ⟨g, i * 2 + 1, none⟩ = some (.int .i64 (l.getD i (0, 0)).2) := by
  have hc := Rngs.of_own h
  obtain ⟨_, hv | ⟨g, c, cur, hv, hb, hg, hnc, hcm, _⟩⟩ := h
  · omega
  · obtain ⟨a, c', hv', hc⟩ := hc
    rw [hv] at hv'
    injection hv' with e1 _ e2
    obtain ⟨g', o', he, hc⟩ := hc (by rintro rfl; simp at hl)
    rw [he] at e1
    injection e1 with e1
    injection e1 with e1 e3
    subst e1 e3
    refine ⟨g, c, hv, hb, (Array.getElem?_eq_some_iff.1 hg).1, hnc, hcm, fun i hi => ?_⟩
    have := hc i hi
    rwa [Nat.zero_add] at this

/-- A slice of a (kept) slice of ranges: what an append of it asks. -/
def Src (w : World) (ao : Option Addr) (m : List (Int × Int)) : Prop :=
  ∃ ad : Addr, ao = some ad ∧ (m ≠ [] → ∃ g oo, ad = ⟨g, oo, none⟩ ∧ ∀ i, i < m.length → w.cell? ⟨g, oo + i * 2, none⟩ = some (.int .i64 (m.getD i (0, 0)).1) ∧ w.cell? ⟨g, oo + i * 2 + 1, none⟩ = some (.int .i64 (m.getD i (0, 0)).2))
theorem step_append_rg (w : World) {ops : Array Oper} {o : Oper} {a : Act} {K : Act → World → Prop} {Q : Exit → Act → World → Prop} {E : Prop} (hgd : o.guard = none) (s x : Operand)
    (ho : o.op = .call { callee := .builtin .append, args := #[s, x], argTypes := #[23, 23] })
    (B : Nat) (v : Value) (l m : List (Int × Int)) (hs : a.eval s = v) (hown : OwnRg w B v l) (ao : Option Addr) (n c : Nat) (hx : a.eval x = .slice ao n c) (hn : m.length = n)
    (hm : Src w ao m) (hlen : l.length + m.length ≤ 8388608) (hB : B ≤ w.heap.size)
    (h : ∀ aa nn cc w', OwnRg w' B (.slice aa nn cc) (l ++ m) → w.grownBy w' v.ownBlock → K (a.put o.dst (.slice aa nn cc)) w') :
    if Region.wanted o (yielded ops a.tmps) = true then Oper.wp Try.prog o a w K Q else E := by
  have hw : Region.wanted o (yielded ops a.tmps) = true := by simp [Region.wanted, hgd]
  rw [if_pos hw]
  subst hn
  obtain ⟨i0, hi, hz0, hz1, hz2⟩ := info_parts try_infoRange
  obtain ⟨ad, rfl, hm⟩ := hm
  have key : ∀ j u, (rcells m)[j]? = some u → w.cell? (ad.add j) = some u := by
    by_cases h0 : m = []
    · subst h0; intro j u hu; simp [rcells] at hu
    · obtain ⟨g, oo, rfl, hc⟩ := hm h0
      exact rngs_cells hc
  refine wp_append_own (w := w) s x 23 ho B 40 i0 (.agg #[.int .i64 0, .int .i64 0]) 2 16 Try.underlying23 hi hz0 hz1 hz2 rfl (by decide) v l.length (rcells l) hs hown ad m.length c (rcells m) hx (rcells_len m) key (one_rcells m) (by unfold maxLen; omega) (by omega) hB ?_
  intro v' w' h1 h2 h3
  have h1 : OwnRg w' B v' (l ++ m) := by unfold OwnRg; rw [List.length_append, rcells_app]; exact h1
  obtain ⟨aa, cc, rfl⟩ := ownsRow_shape h1
  exact h aa _ cc w' h1 h2
def CellsAt (w : World) (g : Nat) (l : List (Int × Int)) : Prop :=
  ∀ i, i < l.length → w.cell? ⟨g, i * 2, none⟩ = some (.int .i64 (l.getD i (0, 0)).1) ∧ w.cell? ⟨g, i * 2 + 1, none⟩ = some (.int .i64 (l.getD i (0, 0)).2)
theorem CellsAt.below {w w' : World} {g : Nat} {l : List (Int × Int)} (h : CellsAt w g l) (hb : Below w.heap.size w w') : CellsAt w' g l := fun i hi =>
  ⟨(hb.cell (World.block_lt_of_cell? w _ (h i hi).1)).trans (h i hi).1, (hb.cell (World.block_lt_of_cell? w _ (h i hi).2)).trans (h i hi).2⟩
theorem src_take {w w' : World} {g : Nat} {l : List (Int × Int)} (h : CellsAt w g l) (hb : Below w.heap.size w w') (k : Nat) : Src w' (some ⟨g, 0, none⟩) (l.take k) :=
  ⟨_, rfl, fun _ => ⟨g, 0, rfl, fun i hi => by
    rw [List.length_take] at hi
    have := h.below hb i (by omega)
    have e : (l.take k).getD i (0, 0) = l.getD i (0, 0) := by
      rw [List.getD_eq_getElem?_getD, List.getD_eq_getElem?_getD, List.getElem?_take, if_pos (by omega)]
    rw [e, Nat.zero_add]
    exact this⟩⟩
theorem src_drop {w w' : World} {g : Nat} {l : List (Int × Int)} (h : CellsAt w g l) (hb : Below w.heap.size w w') (j c : Nat) (hc : l.length ≤ c) :
    Src w' (if c = j then some ⟨g, 0, none⟩ else some ⟨g, j * 2, none⟩) (l.drop j) := by
  by_cases hj : j < l.length
  · rw [if_neg (by omega)]
    refine ⟨_, rfl, fun _ => ⟨g, j * 2, rfl, fun i hi => ?_⟩⟩
    rw [List.length_drop] at hi
    have := h.below hb (j + i) (by omega)
    have e : (l.drop j).getD i (0, 0) = l.getD (j + i) (0, 0) := by
      rw [List.getD_eq_getElem?_getD, List.getD_eq_getElem?_getD, List.getElem?_drop]
    rw [e, show j * 2 + i * 2 = (j + i) * 2 by omega]
    exact this
  · have h0 : l.drop j = [] := List.drop_eq_nil_iff.2 (by omega)
    rw [h0]
    split
    · exact ⟨_, rfl, fun h => absurd rfl h⟩
    · exact ⟨_, rfl, fun h => absurd rfl h⟩
theorem src_drop1 {w w' : World} {g : Nat} {l : List (Int × Int)} (h : CellsAt w g l) (hb : Below w.heap.size w w') (j c : Nat) (hc : l.length ≤ c) (hj : j < l.length) : Src w' (some ⟨g, j * 2, none⟩) (l.drop j) := by
  have := src_drop h hb j c hc
  rwa [if_neg (by omega)] at this
theorem grown_kept {w W W' : World} {v : Value} {l : List (Int × Int)} (h : Below w.heap.size w W) (ho : OwnRg W w.heap.size v l) (hg : W.grownBy W' v.ownBlock) : Below w.heap.size w W' :=
  h.grown hg h.size (fun j hj => (World.ownsRow.lt ho j hj).1)

set_option maxRecDepth 100000 in
set_option maxHeartbeats 2000000 in
theorem part_walk (a : Option Addr) (len cap : Nat) (zs : List Int) (a1 : Option Addr) (len1 cap1 : Nat) (zs1 : List Int) (w : World) (h : IsRow .u8 w a len cap zs) (h1 : IsRow .u8 w a1 len1 cap1 zs1) :
    Calls Try.prog 14 #[.slice a len cap, .slice a1 len1 cap1] w fun e w' => e = .returned (.bool true) ∧ Below w.heap.size w w' := by
  have H := Lib.hid h
  clear h h1
  by_cases hl : 1048576 < len
  · go_enter Try.func14, Try.ntmps14
    go_wp2
    go_ret
    exact ⟨rfl, Below.refl _ _⟩
  by_cases hl1 : 1048576 < len1
  · go_enter Try.func14, Try.ntmps14
    go_wp2
    go_ret
    exact ⟨rfl, Below.refl _ _⟩
  go_enter Try.func14, Try.ntmps14
  go_wp2_with fail
  refine (drawValid_any a len cap zs w H.out).mono ?_
  rintro e w1 ⟨v, l, hl17, rfl, hb1, ho1, hn1⟩
  have B1 := Lib.hid hb1
  obtain ⟨la, lc, rfl⟩ := ownsRow_shape ho1
  have I1 := Lib.hid (Rngs.of_own ho1)
  have O1 := Lib.hid ho1
  clear hb1 ho1 hn1
  go_wp2_with fail
  refine (ivalid_any _ l w1 I1.out (by omega)).mono ?_
  rintro e w2 ⟨rfl, hb2⟩
  have C2 := Lib.hid hb2
  clear hb2
  go_wp2_with fail
  refine (svalid_any _ l w2 (I1.out.below C2.out) (by omega)).mono ?_
  rintro e w3 ⟨rfl, hb3⟩
  have C3 := Lib.hid (C2.out.trans (hb3.mono C2.out.size))
  clear hb3
  cases hv : rvalid l with
  | false =>
    clear hv
    go_wp2_with fail
    go_ret
    exact ⟨rfl, B1.out.trans (C3.out.mono B1.out.size)⟩
  | true =>
    have HV := Lib.hid hv
    have hl16 := (rvalid_parts hv).2
    clear hv
    by_cases h0 : l.length = 0
    · have h0b : ((l.length : Int) == 0) = true := by rw [beq_iff_eq]; omega
      go_wp2_with fail
      go_ret
      exact ⟨rfl, B1.out.trans (C3.out.mono B1.out.size)⟩
    have h0b : ((l.length : Int) == 0) = false := by rw [beq_eq_false_iff_ne]; omega
    have h0i : ¬ (l.length : Int) = 0 := by omega
    obtain ⟨k, hk⟩ : ∃ k : Nat, len1 % l.length = k := ⟨_, rfl⟩
    have hkl : k < l.length := by rw [← hk]; exact Nat.mod_lt _ (by omega)
    have hki : Int.tmod (len1 : Int) (l.length : Int) = (k : Int) := by rw [← hk]; rfl
    have hki2 : (len1 : Int) % (l.length : Int) = (k : Int) := by rw [← hk]; simp
    clear hk
    go_wp2_with fail
    obtain ⟨g, c, hsh, hgb, hgl, hcap, hcm, hcc⟩ := owned_at O1.out (by omega)
    injection hsh with hs1 _ hs2
    subst hs1 hs2
    have HCC := Lib.hid (show CellsAt w1 g l from hcc)
    clear hcc
    have q0 : (0 : Int) ≤ (k : Int) := by omega
    have q1 : (k : Int) ≤ (lc : Int) := by omega
    have q2 : (k : Int) + 1 ≤ (l.length : Int) := by omega
    have q3 : (l.length : Int) ≤ (lc : Int) := by omega
    have q4 : (0 : Int) ≤ (k : Int) + 1 := by omega
    have q6 : (k : Int) + 1 ≤ (lc : Int) := by omega
    have q7 : (k : Int) ≤ (l.length : Int) := by omega
    have q5 : IntKind.i64.wrap ((k : Int) + 1) = (k : Int) + 1 := IntWalk.i64_in _ (by omega)
    have CA := Lib.hid (C3.out.alloc C3.out.size (.cells #[] 40)).drew
    have OA := Lib.hid (show OwnRg (w3.alloc (.cells #[] 40)).drew w1.heap.size (.slice (some ⟨w3.heap.size, 0, none⟩) 0 0) [] from World.ownsRow.drew (own_new 40 2 w1.heap.size w3 C3.out.size))
    go_region_held3 (fun _ => True) (first | trivial | go_keep)
      (first
        | (refine step_append_rg _ (by rfl) _ _ (by rfl) w1.heap.size (.slice (some ⟨w3.heap.size, 0, none⟩) 0 0) [] (l.take k) (by rfl) OA.out _ k lc (by rfl) (by rw [List.length_take]; omega) (src_take HCC.out CA.out k) (by rw [List.length_take]; simp; omega) CA.out.size ?_; intro aa1 nn1 cc1 wa1 hown1 hgrow1)
        | (refine step_append_rg _ (by rfl) _ _ (by rfl) w1.heap.size _ ([] ++ l.take k) (l.drop (k + 1)) (by rfl) hown1 _ (l.length - (k + 1)) (lc - (k + 1)) (by rfl) (by rw [List.length_drop]) (src_drop HCC.out (grown_kept CA.out OA.out hgrow1) (k + 1) lc (by omega)) (by rw [List.length_drop, List.length_append, List.length_take, List.length_nil]; omega) (grown_kept CA.out OA.out hgrow1).size ?_; intro aa2 nn2 cc2 wa2 hown2 hgrow2))
    generalize (if lc = k + 1 then some (⟨g, 0, none⟩ : Addr) else some ⟨g, (k + 1) * 2, none⟩) = zz1
    have D2 := Lib.hid (grown_kept (grown_kept CA.out OA.out hgrow1) hown1 hgrow2)
    have N2 := Lib.hid hown2
    have HC2 := Lib.hid (HCC.out.below D2.out)
    have hlen2 : ([] ++ l.take k ++ l.drop (k + 1)).length ≤ 1048576 := by rw [List.length_append, List.length_append, List.length_take, List.length_drop, List.length_nil]; omega
    have V2 := Lib.hid (show rvalid ([] ++ l.take k ++ l.drop (k + 1)) = true from less_valid HV.out hkl)
    generalize ([] ++ l.take k ++ l.drop (k + 1)) = less at N2 hlen2 V2 hown2
    clear hown1 hgrow1 hown2 hgrow2 CA OA
    have CB := Lib.hid ((Below.refl wa2.heap.size wa2).alloc (Nat.le_refl _) (.cells #[] 40)).drew
    have OB := Lib.hid (show OwnRg (wa2.alloc (.cells #[] 40)).drew wa2.heap.size (.slice (some ⟨wa2.heap.size, 0, none⟩) 0 0) [] from World.ownsRow.drew (own_new 40 2 wa2.heap.size wa2 (Nat.le_refl _)))
    go_wp2_with fail
    go_region_held3 (fun _ => True) (first | trivial | go_keep)
      (first
        | (refine step_append_rg _ (by rfl) _ _ (by rfl) wa2.heap.size (.slice (some ⟨wa2.heap.size, 0, none⟩) 0 0) [] (l.take (k + 1)) (by rfl) OB.out _ (k + 1) lc (by rfl) (by rw [List.length_take]; omega) (src_take HC2.out CB.out (k + 1)) (by rw [List.length_take, List.length_nil]; omega) CB.out.size ?_; intro aa3 nn3 cc3 wa3 hown3 hgrow3)
        | (refine step_append_rg _ (by rfl) _ _ (by rfl) wa2.heap.size _ ([] ++ l.take (k + 1)) (l.drop k) (by rfl) hown3 _ (l.length - k) (lc - k) (by rfl) (by rw [List.length_drop]) (src_drop HC2.out (grown_kept CB.out OB.out hgrow3) k lc (by omega)) (by rw [List.length_drop, List.length_append, List.length_take, List.length_nil]; omega) (grown_kept CB.out OB.out hgrow3).size ?_; intro aa4 nn4 cc4 wa4 hown4 hgrow4)
        | (refine step_append_rg _ (by rfl) _ _ (by rfl) wa2.heap.size _ ([] ++ l.take (k + 1)) (l.drop k) (by rfl) hown3 _ (l.length - k) (lc - k) (by rfl) (by rw [List.length_drop]) (src_drop1 HC2.out (grown_kept CB.out OB.out hgrow3) k lc (by omega) hkl) (by rw [List.length_drop, List.length_append, List.length_take, List.length_nil]; omega) (grown_kept CB.out OB.out hgrow3).size ?_; intro aa4 nn4 cc4 wa4 hown4 hgrow4))
    generalize (if lc = k then some (⟨g, 0, none⟩ : Addr) else some ⟨g, k * 2, none⟩) = zz2
    have D4 := Lib.hid (grown_kept (grown_kept CB.out OB.out hgrow3) hown3 hgrow4)
    have N4 := Lib.hid hown4
    have hlen4 : ([] ++ l.take (k + 1) ++ l.drop k).length ≤ 1048576 := by rw [List.length_append, List.length_append, List.length_take, List.length_drop, List.length_nil]; omega
    have V4 := Lib.hid (show rvalid ([] ++ l.take (k + 1) ++ l.drop k) = false from twice_invalid HV.out hkl)
    generalize ([] ++ l.take (k + 1) ++ l.drop k) = twice at N4 hlen4 V4 hown4
    clear hown3 hgrow3 hown4 hgrow4 CB OB
    go_wp2_with fail
    refine (ivalid_any _ less wa4 ((Rngs.of_own N2.out).below D4.out) hlen2).mono ?_
    rintro e w5 ⟨rfl, hb5⟩
    rw [V2.out]
    have C5 := Lib.hid hb5
    clear hb5
    go_wp2_with fail
    refine (ivalid_any _ twice w5 ((Rngs.of_own N4.out).below C5.out) hlen4).mono ?_
    rintro e w6 ⟨rfl, hb6⟩
    rw [V4.out]
    have C6 := Lib.hid (C5.out.trans (hb6.mono C5.out.size))
    clear hb6
    go_wp2_with fail
    go_ret
    exact ⟨rfl, B1.out.trans (((D2.out.trans ((D4.out.trans (C6.out.mono D4.out.size)).mono D2.out.size))).mono B1.out.size)⟩

end Go.Proofs.Ytcjhbcibhcogjaa
