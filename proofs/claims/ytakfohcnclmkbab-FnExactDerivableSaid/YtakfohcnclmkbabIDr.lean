/- Chapter 11, the program's Derive. -/
import Derived.Test.YtakfohcnclmkbabIDa
import Derived.Test.YtakfohcnclmkbabLayK
import Derived.CallsIn
namespace Go.Proofs.Ytakfohcnclmkbab
open Go.RowKit Go.Maps Go.Sort Go.Shelf
set_option linter.unusedVariables false
set_option linter.unusedSimpArgs false

theorem sortsA (m : Nat) : AnyZI.SortsIn Try.prog sortedA_ren Fence.wide m :=
  ⟨fun blk off cap ss W hH hblk hsz => callsIn_wide.2 (AnyM.slices_Sort_int sortA blk off cap ss W hH hblk hsz),
   fun p cap W => callsIn_wide.2 (AnyM.slices_Sort_int_none sortA p cap W)⟩

theorem has_wf {w : World} {m n : Nat} {D : DataW Unit} (h : w.ownsMap Try.prog 3 (plainElem Try.prog 4) m n D) {x : Int} (hx : Maps.has D (.int .i64 x) = true) : i64ok x := by
  obtain ⟨es, rfl, hko⟩ := h.keysOf
  rw [has_eq, List.any_eq_true] at hx
  obtain ⟨p, hp, hs⟩ := hx
  obtain ⟨v, hv⟩ := hko p hp
  obtain ⟨y, _, hy, hl⟩ := Maps.keyOf_i64 Try.underlying3 hv
  rw [hy] at hs
  have : y = x := by simpa [Lit.sameKey] using hs
  rw [← this]; exact hl
theorem nodup_lt : ∀ {l : List Int}, l.Pairwise (· < ·) → l.Nodup := fun h => h.imp fun {a b} hab => by omega
theorem perm_dl {w : World} {m n : Nat} {D : DataW Unit} {L : List Int} {l : List Bx} {k : List Int} (h : w.ownsMap Try.prog 3 (plainElem Try.prog 4) m n D) (hD : ∀ x : Int, i64ok x → Maps.has D (.int .i64 x) = decide (x ∈ L)) (hL : ∀ x, x ∈ L ↔ Ders l k x) :
    (dl l k).Perm (intKeys D) := by
  refine CollectedI.perm (left := fun _ => false) ⟨nodup_lt (dl_sorted l k), fun x => ?_⟩ h keyed Try.underlying3 (fun _ => rfl)
  rw [mem_dl]
  constructor
  · intro hd
    have ha := hd.atom
    refine ⟨?_, rfl⟩
    rw [hD x (i64ok_of (by omega) (by omega))]
    exact decide_eq_true ((hL x).2 hd)
  · rintro ⟨hx, _⟩
    rw [hD x (has_wf h hx)] at hx
    exact (hL x).1 (of_decide_eq_true hx)

/-- The slice that the program's Derive gives. -/
def IDerPost (w : World) (xs : List Int) (e : Ending) (w' : World) : Prop := ∃ v, e = .returned v ∧ Below w.heap.size w w' ∧ OwnI w' w.heap.size v xs ∧ (v = .slice none 0 0 ↔ xs = [])

set_option maxRecDepth 100000 in
set_option maxHeartbeats 1000000 in
theorem isorted_any (m : Nat) (L : List Int) (l : List Bx) (k : List Int) (w : World) (hm : MapHas w m L) (hLl : L.length ≤ 60) (hL : ∀ x, x ∈ L ↔ Ders l k x) :
    Calls Try.prog 36 #[.func (.func 47) #[] #[.pointer (some ⟨w.heap.size, 0, none⟩)]] (w.alloc (.cells #[.map (some m)] 56)) fun e w' =>
      ∃ v, e = .returned v ∧ Below w.heap.size w w' ∧ OwnI w' w.heap.size v (dl l k) ∧ (v = .slice none 0 0 ↔ dl l k = []) := by
  obtain ⟨D, hown, hD⟩ := hm
  have hp := perm_dl hown (fun x hx => (hD x hx).1) hL
  have hbl := hown.lt
  have hsz := hown.size_le
  have hseq : SeqGives Fence.wide 2 Try.prog 47 #[.pointer (some ⟨w.heap.size, 0, none⟩)] encZ (fun ss => ss.Perm (intKeys D)) (Maps.size D) (w.alloc (.cells #[.map (some m)] 56)) :=
    AnyZI.keys_gives (ρ := keysA_ren) { keysA with } Fence.wide _ trivial rfl (by omega) w.heap.size m L.length D _ (by simp) (by simp) (by
      obtain ⟨es, clock, hb, Ft, hs, hD⟩ := hown
      exact ⟨es, clock, (Below.heap_alloc _ _ m hbl).trans hb, Ft, hs, hD⟩)
  have cS := AnyZI.sorted_in sortedA Fence.wide 5 trivial trivial trivial trivial rfl (by omega) (sortsA _) (enters_of Try.func46 (by kernel_rfl) rfl) 47 #[.pointer (some ⟨w.heap.size, 0, none⟩)] trivial (enters_of Try.func47 (by kernel_rfl) rfl) _ _ (by unfold maxLen; omega) (by omega) _ hseq
  change CallsIn _ _ Try.prog 36 _ _ _ at cS
  refine (callsIn_wide.1 cS).mono ?_
  rintro e w' ⟨v, ss, rfl, hS, hrow, hnil, hb⟩
  have hpd : ss.Perm (dl l k) := hS.trans hp.symm
  have e1 : ss.mergeSort (fun x y => decide (x ≤ y)) = dl l k := by
    rw [show (fun x y : Int => decide (x ≤ y)) = leI from rfl, mergeSort_of_perm_i hpd]
    exact dl_of_sorted (nodup_lt (dl_sorted l k)) (fun x => mem_dl)
  have e2 : ss.length = (dl l k).length := hpd.length_eq
  rw [e1, e2] at hrow
  have hs1 : (w.alloc (.cells #[.map (some m)] 56)).heap.size = w.heap.size + 1 := by simp
  refine ⟨v, rfl, ((Below.refl _ w).alloc (Nat.le_refl _) _).trans (hb.mono (by omega)), OwnI.base hrow (by omega), hnil.trans ?_⟩
  constructor
  · rintro rfl
    have := hpd.symm.eq_nil
    exact this
  · intro h
    rw [h] at hpd
    exact hpd.eq_nil

set_option maxRecDepth 100000 in
set_option maxHeartbeats 1000000 in
theorem ider_any (v u : Value) (l : List Bx) (k : List Int) (w : World) (h : Bxs w v l) (hk : Ints w u k) (hl : l.length ≤ 1048576) (hlen : ∀ b ∈ l, b.2.length ≤ 1048576) (hkl : k.length ≤ 1048576) :
    Calls Try.prog 15 #[v, u] w (IDerPost w (dl l k)) := by
  have ID := Lib.hid (ida_any v u l k w h hk hl hlen hkl)
  obtain ⟨a, c, rfl, _⟩ := h
  obtain ⟨ka, kc, rfl, _⟩ := hk
  clear hl hlen hkl
  have cK : ∀ mb W, Calls Try.prog 37 #[.map mb] W fun e w' => e = .returned (.func (.func 47) #[] #[.pointer (some ⟨W.heap.size, 0, none⟩)]) ∧ w' = W.alloc (.cells #[.map mb] 56) := fun mb W => callsIn_wide.1 (AnyZI.keys_in keysA Fence.wide 5 trivial rfl mb W)
  have CK := Lib.hid cK
  clear cK
  go_enter Try.func15, Try.ntmps15
  go_wp2_with fail
  refine ID.out.mono ?_
  rintro e w1 ⟨m, L, rfl, hb, _, hm, hLl, hL⟩
  have HB := Lib.hid hb
  have IS := Lib.hid (isorted_any m L l k w1 hm hLl hL)
  clear hb hm hLl hL
  go_wp2_with fail
  refine (CK.out _ _).mono ?_
  rintro e w2 ⟨rfl, rfl⟩
  go_wp2_with fail
  refine IS.out.mono ?_
  rintro e w3 ⟨v, rfl, hb, ho, hn⟩
  have HB2 := Lib.hid (HB.out.trans (hb.mono HB.out.size))
  have HO := Lib.hid (ho.base HB.out.size)
  have HN := Lib.hid hn
  clear hb ho hn
  go_wp2_with fail
  go_ret
  exact ⟨v, rfl, HB2.out, HO.out, HN.out⟩

end Go.Proofs.Ytakfohcnclmkbab
