/- The program's sorting of ranges by their lower bounds. -/
import Derived.Test.YtcjhbcibhcogjaaLay
import Derived.Test.YtcjhbcibhcogjaaSAdd
import Derived.Test.YtcjhbcibhcogjaaUnMath
namespace Go.Proofs.Ytcjhbcibhcogjaa
open Go.Shelf Go.RowKit Go.Lib Go.Sort
set_option linter.unusedVariables false
set_option linter.unusedSimpArgs false

/-- The two cells of a range. -/
def encR (x : Int × Int) : List Value := [.int .i64 x.1, .int .i64 x.2]
def cmpR (x y : Int × Int) : Int := Lib.compareInt x.1 y.1
theorem ltR (x y : Int × Int) : ltOf cmpR x y = decide (x.1 < y.1) := by
  unfold ltOf cmpR Lib.compareInt
  by_cases h1 : x.1 < y.1
  · simp [h1]
  · by_cases h2 : y.1 < x.1 <;> simp [h1, h2]
theorem swoR : SWO (ltOf cmpR) where
  irrefl x := by rw [ltR]; simp
  trans x y z h1 h2 := by rw [ltR] at *; simp at *; omega
  ntrans x y z h1 h2 := by rw [ltR] at *; simp at *; omega

set_option maxRecDepth 100000 in
set_option maxHeartbeats 1000000 in
theorem closure_any (x y : Int × Int) (W : World) : Calls Try.prog 46 #[.agg #[.int .i64 x.1, .int .i64 x.2], .agg #[.int .i64 y.1, .int .i64 y.2]] W fun e w' => e = .returned (.int .i64 (cmpR x y)) ∧ ∃ q os', w' = grow (W.drewN q) os' := by
  have hcon := fun W' => AnyG.cmp_Compare_int cmpInt x.1 y.1 W'
  change ∀ W', Calls Try.prog 47 _ _ _ at hcon
  unfold cmpR
  generalize Lib.compareInt x.1 y.1 = r at hcon ⊢
  go_enter Try.func46, Try.ntmps46
  go_wp2_with (go_at_call 47; refine (hcon _).mono ?_; rintro e w' ⟨rfl, rfl⟩)
  go_ret
  exact ⟨rfl, 0, _, by rw [alloc_eq_grow, alloc_eq_grow, grow_grow]; rfl⟩
theorem cmpLaysR (blk off size : Nat) (w : World) : CmpLays Try.prog 46 #[] encR 2 cmpR blk off size w :=
  fun _ _ _ _ x y => closure_any x y _

theorem getR (l : List (Int × Int)) (i : Nat) (h : i < l.length) : l.toArray[i]! = l.getD i (0, 0) := by
  rw [getElem!_pos _ i (by simpa using h), List.getD_eq_getElem?_getD, List.getElem?_eq_getElem h]; simp
theorem own_holds {w : World} {B g c : Nat} {l : List (Int × Int)} (h : OwnRg w B (.slice (some ⟨g, 0, none⟩) l.length c) l) : HoldsK encR 2 w g 0 l.toArray := by
  intro j hj
  rw [size_flatK] at hj
  have hj' : j < l.length * 2 := by simpa using hj
  rw [get_flatK _ _ _ _ hj, Nat.zero_add, World.ownsRow.cellAt h _ hj', getR _ _ (by omega)]
  refine ⟨?_, World.ownsRow.frozenAt h _⟩
  obtain ⟨r1, r2⟩ := rcells_at l (j / 2) (by omega)
  have hm : j % 2 = 0 ∨ j % 2 = 1 := by omega
  rcases hm with hm | hm
  · rw [hm]
    rw [show j / 2 * 2 = j by omega] at r1
    rw [r1]; rfl
  · rw [hm]
    rw [show j / 2 * 2 + 1 = j by omega] at r2
    rw [r2]; rfl
theorem holds_rngs {w : World} {g c : Nat} {s : List (Int × Int)} (h : HoldsK encR 2 w g 0 s.toArray) : Rngs w (.slice (some ⟨g, 0, none⟩) s.length c) s := by
  refine ⟨_, _, rfl, fun _ => ⟨g, 0, rfl, fun i hi => ?_⟩⟩
  have h0 := (h.cell (i := i) (c := 0) (by simpa using hi) (by omega)).1
  have h1 := (h.cell (i := i) (c := 1) (by simpa using hi) (by omega)).1
  rw [getR _ _ hi] at h0 h1
  exact ⟨h0, h1⟩
theorem below_put {w : World} {B g off n : Nat} {d : Array (Int × Int)} {os : Array Obj} (hg : B ≤ g) (hB : B ≤ w.heap.size) : Below B w (sortWorldK encR 2 w g off n d os) := by
  refine ⟨rfl, rfl, rfl, ?_, fun k hk => ?_⟩
  · simp [sortWorldK, putRowK, putRow, mapBlock, grow, Sort.ahead]
  · simp only [sortWorldK, putRowK, putRow, mapBlock, grow, Sort.ahead]
    rw [Array.getElem?_append_left (by simp; omega), Array.getElem?_modify, if_neg (by omega)]

def SortPost (B : Nat) (v : Value) (l : List (Int × Int)) (w : World) (e : Ending) (w' : World) : Prop :=
  e = .returned (.tuple #[]) ∧ Below B w w' ∧ ∃ s : List (Int × Int), s.Perm l ∧ s.Pairwise (fun x y => x.1 ≤ y.1) ∧ Rngs w' v s

set_option maxRecDepth 100000 in
set_option maxHeartbeats 1000000 in
theorem sort_any (v : Value) (l : List (Int × Int)) (w : World) (B : Nat) (h : OwnRg w B v l) (hB : B ≤ w.heap.size) (hlen : l.length ≤ 1048576) :
    Calls Try.prog 45 #[v, .func (.func 46) #[] #[]] w (SortPost B v l w) := by
  by_cases h0 : l = []
  · subst h0
    obtain ⟨a, c, rfl⟩ := ownsRow_shape h
    have hcon := AnyF.slices_SortFunc_none { sortR with } a c (.func (.func 46) #[] #[]) w
    refine hcon.mono ?_
    rintro e w' ⟨rfl, rfl⟩
    exact ⟨rfl, Below.refl _ _, [], List.Perm.refl _, List.Pairwise.nil, ⟨a, c, rfl, fun hx => absurd rfl hx⟩⟩
  · obtain ⟨_, hs | ⟨g, c, cur, rfl, hg, hb, _⟩⟩ := id h
    · exact absurd (List.length_eq_zero_iff.1 hs.2) h0
    have hgs : g < w.heap.size := (Array.getElem?_eq_some_iff.1 hb).1
    have hH := own_holds h
    have eg : ∀ args w, (callFunc 46 args).run Try.prog w = .ok (.enter 46 args) w := enters_of Try.func46 (by kernel_rfl) rfl
    have hcon := AnyQ.slices_SortFunc sortR 2 Try.isAgg40 Try.sizeOf40 encR (fun _ => rfl) (fun x v hv => by simp [encR] at hv; rcases hv with rfl | rfl <;> rfl) cmpR swoR 46 #[] g 0 c l.toArray w eg (cmpLaysR g 0 _ w) hH hgs (by simp; omega)
    change Calls Try.prog 45 #[.slice (some ⟨g, 0, none⟩) l.length c, .func (.func 46) #[] #[]] w _ at hcon
    refine hcon.mono ?_
    rintro e w' ⟨rfl, d', n, os, hp, hs, rfl⟩
    obtain ⟨hsz, _, hperm⟩ := hp
    have hsz' : d'.size = l.length := by simpa using hsz
    have x1 : d'.extract 0 l.length = d' := by rw [← hsz']; simp
    have x2 : l.toArray.extract 0 l.length = l.toArray := by first | (simp; done) | exact Array.extract_size
    have hperm' : d'.toList.Perm l := by
      have := hperm
      simp only [List.size_toArray] at this
      rw [x1, x2] at this
      simpa using this
    refine ⟨rfl, below_put hg hB, d'.toList, hperm', ?_, ?_⟩
    · rw [List.pairwise_iff_getElem]
      intro i j hi hj hij
      have := hs i j (Nat.zero_le _) hij (by simpa [hsz'] using hj)
      rw [ltR] at this
      have k := of_decide_eq_false this
      have hi' : i < d'.size := by simpa using hi
      have hj' : j < d'.size := by simpa using hj
      rw [getElem!_pos d' i hi', getElem!_pos d' j hj'] at k
      simp only [Array.getElem_toList]
      omega
    · have hh : HoldsK encR 2 (sortWorldK encR 2 w g 0 n d' os) g 0 d' := by
        unfold sortWorldK
        refine holdsK_grow (enc := encR) (k := 2) _ _ _ _ _ ?_ (holdsK_putRowK (enc := encR) (k := 2) _ _ _ l.toArray _ (holdsK_ahead (enc := encR) (k := 2) _ _ _ _ _ hH) (by simpa using hsz'))
        simp [putRowK, putRow, mapBlock, Sort.ahead]; exact hgs
      have := holds_rngs (c := c) (s := d'.toList) (by simpa using hh)
      rwa [show d'.toList.length = l.length by simpa using hsz'] at this

end Go.Proofs.Ytcjhbcibhcogjaa
