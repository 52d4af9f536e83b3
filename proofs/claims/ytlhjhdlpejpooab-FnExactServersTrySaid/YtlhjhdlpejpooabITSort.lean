/- The program's sorting of tickets. -/
import Derived.Test.YtlhjhdlpejpooabCmpT
import Derived.Test.YtlhjhdlpejpooabRpMath
import Derived.Test.YtlhjhdlpejpooabTcMem
namespace Go.Proofs.Ytlhjhdlpejpooab
open Go.Shelf Go.RowKit Go.Lib Go.Sort
set_option linter.unusedVariables false
set_option linter.unusedSimpArgs false

/-- The two cells of a ticket. -/
def encT (x : Int × Int) : List Value := [.int .i64 x.1, .int .i64 x.2]
theorem ltT (x y : Tic) : ltOf cmpT x y = decide (TL x y) := by
  unfold ltOf
  rw [Bool.eq_iff_iff, decide_eq_true_eq, decide_eq_true_eq]
  exact cmpT_neg x y
theorem swoT : SWO (ltOf cmpT) where
  irrefl x := by rw [ltT]; exact decide_eq_false (TL.irr x)
  trans x y z h1 h2 := by rw [ltT] at *; simp only [decide_eq_true_eq] at *; exact h1.trans h2
  ntrans x y z h1 h2 := by
    rw [ltT] at *
    simp only [decide_eq_false_iff_not] at *
    intro h
    rcases TL.total x y with k | k | k
    · exact h1 k
    · subst k; exact h2 h
    · exact h2 (k.trans h)
theorem cmpLaysT (blk off size : Nat) (w : World) : CmpLays Try.prog 46 #[] encT 2 cmpT blk off size w :=
  fun _ _ _ _ x y => cmpt_any x y _

theorem getT (l : List (Int × Int)) (i : Nat) (h : i < l.length) : l.toArray[i]! = l.getD i (0, 0) := by
  rw [getElem!_pos _ i (by simpa using h), List.getD_eq_getElem?_getD, List.getElem?_eq_getElem h]; simp
theorem tc_holds {w : World} {B g c : Nat} {l : List (Int × Int)} (h : OwnTc w B (.slice (some ⟨g, 0, none⟩) l.length c) l) : HoldsK encT 2 w g 0 l.toArray := by
  intro j hj
  rw [size_flatK] at hj
  have hj' : j < l.length * 2 := by simpa using hj
  rw [get_flatK _ _ _ _ hj, Nat.zero_add, World.ownsRow.cellAt h _ hj', getT _ _ (by omega)]
  refine ⟨?_, World.ownsRow.frozenAt h _⟩
  obtain ⟨r1, r2⟩ := tcells_at l (j / 2) (by omega)
  have hm : j % 2 = 0 ∨ j % 2 = 1 := by omega
  rcases hm with hm | hm
  · rw [hm]
    rw [show j / 2 * 2 = j by omega] at r1
    rw [r1]; rfl
  · rw [hm]
    rw [show j / 2 * 2 + 1 = j by omega] at r2
    rw [r2]; rfl
theorem below_putT {w : World} {B g off n : Nat} {d : Array (Int × Int)} {os : Array Obj} (hg : B ≤ g) (hB : B ≤ w.heap.size) : Below B w (sortWorldK encT 2 w g off n d os) := by
  refine ⟨rfl, rfl, rfl, ?_, fun k hk => ?_⟩
  · simp [sortWorldK, putRowK, putRow, mapBlock, grow, Sort.ahead]
  · simp only [sortWorldK, putRowK, putRow, mapBlock, grow, Sort.ahead]
    rw [Array.getElem?_append_left (by simp; omega), Array.getElem?_modify, if_neg (by omega)]
/-- The row that a sort leaves is the call's own still. -/
theorem own_of_holds {w w' : World} {B g c : Nat} {l s : List Tic} (h : OwnTc w B (.slice (some ⟨g, 0, none⟩) l.length c) l) (hs : s.length = l.length)
    (hb : ∃ cur cur', w.heap[g]? = some (.cells cur 38 (0, 0)) ∧ w'.heap[g]? = some (.cells cur' 38 (0, 0)) ∧ cur'.size = cur.size)
    (hh : HoldsK encT 2 w' g 0 s.toArray) : OwnTc w' B (.slice (some ⟨g, 0, none⟩) s.length c) s := by
  obtain ⟨_, ⟨h1, _⟩ | ⟨g', c', cur0, he, hB, hg, hc, hcm, hsz, ht⟩⟩ := h
  · cases h1
  · injection he with e1 e2 e3
    injection e1 with e1
    injection e1 with e1
    subst e1; subst e3
    obtain ⟨cur, cur', k1, k2, k3⟩ := hb
    rw [hg] at k1
    injection k1 with k1
    injection k1 with k1
    subst k1
    refine ⟨tcells_len s, .inr ⟨_, _, cur', rfl, hB, k2, by omega, hcm, by omega, ?_⟩⟩
    apply List.ext_getElem?
    intro i
    by_cases hi : i < s.length * 2
    · have h0 := hh i (by rw [size_flatK]; simpa using hi)
      rw [get_flatK _ _ _ _ (by simpa using hi), Nat.zero_add, getT _ _ (by omega)] at h0
      obtain ⟨h0, _⟩ := h0
      have hcell : w'.cell? ⟨g, i, none⟩ = cur'[i]? := by
        unfold World.cell?
        simp [k2]
      rw [List.getElem?_take_of_lt hi, Array.getElem?_toList, ← hcell, h0]
      obtain ⟨r1, r2⟩ := tcells_at s (i / 2) (by omega)
      have hm : i % 2 = 0 ∨ i % 2 = 1 := by omega
      rcases hm with hm | hm
      · rw [hm]
        rw [show i / 2 * 2 = i by omega] at r1
        rw [r1]; rfl
      · rw [hm]
        rw [show i / 2 * 2 + 1 = i by omega] at r2
        rw [r2]; rfl
    · rw [List.getElem?_eq_none (by rw [List.length_take]; omega), List.getElem?_eq_none (by rw [tcells_len]; omega)]

def SortedT (B : Nat) (v : Value) (l : List Tic) (w : World) (e : Ending) (w' : World) : Prop :=
  e = .returned (.tuple #[]) ∧ Below B w w' ∧ ∃ s : List Tic, s.Perm l ∧ s.Pairwise (fun x y => ¬ TL y x) ∧ OwnTc w' B v s

set_option maxRecDepth 100000 in
set_option maxHeartbeats 1000000 in
theorem tsort_any (g c : Nat) (l : List Tic) (w : World) (B : Nat) (h : OwnTc w B (.slice (some ⟨g, 0, none⟩) l.length c) l) (hB : B ≤ w.heap.size) (hlen : l.length ≤ 1048576) :
    Calls Try.prog 45 #[.slice (some ⟨g, 0, none⟩) l.length c, .func (.func 46) #[] #[]] w (SortedT B (.slice (some ⟨g, 0, none⟩) l.length c) l w) := by
  obtain ⟨_, ⟨h1, _⟩ | ⟨g', c', cur, he, hg, hb, _⟩⟩ := id h
  · cases h1
  injection he with e1 e2 e3
  injection e1 with e1
  injection e1 with e1
  subst e1; subst e3
  have hgs : g < w.heap.size := (Array.getElem?_eq_some_iff.1 hb).1
  have hH := tc_holds h
  have eg : ∀ args w, (callFunc 46 args).run Try.prog w = .ok (.enter 46 args) w := enters_of Try.func46 (by kernel_rfl) rfl
  have hcon := AnyQ.slices_SortFunc sortT 2 Try.isAgg38 Try.sizeOf38 encT (fun _ => rfl) (fun x v hv => by simp [encT] at hv; rcases hv with rfl | rfl <;> rfl) cmpT swoT 46 #[] g 0 c l.toArray w eg (cmpLaysT g 0 _ w) hH hgs (by simp; omega)
  change Calls Try.prog 45 #[.slice (some ⟨g, 0, none⟩) l.length c, .func (.func 46) #[] #[]] w _ at hcon
  refine hcon.mono ?_
  rintro e w' ⟨rfl, d', n, os, hp, hs, rfl⟩
  obtain ⟨hsz, _, hperm⟩ := hp
  have hsz' : d'.size = l.length := by simpa using hsz
  have x1 : d'.extract 0 l.length = d' := by rw [← hsz']; simp
  have x2 : l.toArray.extract 0 l.length = l.toArray := by first | (simp; done) | exact Array.extract_size
  have hperm' : d'.toList.Perm l := by
    have := hperm
    simp only [List.size_toArray] at this
    rw [x1, x2] at this
    simpa using this
  refine ⟨rfl, below_putT hg hB, d'.toList, hperm', ?_, ?_⟩
  · rw [List.pairwise_iff_getElem]
    intro i j hi hj hij
    have := hs i j (Nat.zero_le _) hij (by simpa [hsz'] using hj)
    rw [ltT] at this
    have k := of_decide_eq_false this
    have hi' : i < d'.size := by simpa using hi
    have hj' : j < d'.size := by simpa using hj
    rw [getElem!_pos d' i hi', getElem!_pos d' j hj'] at k
    simp only [Array.getElem_toList]
    exact k
  · have hh : HoldsK encT 2 (sortWorldK encT 2 w g 0 n d' os) g 0 d' := by
      unfold sortWorldK
      refine holdsK_grow (enc := encT) (k := 2) _ _ _ _ _ ?_ (holdsK_putRowK (enc := encT) (k := 2) _ _ _ l.toArray _ (holdsK_ahead (enc := encT) (k := 2) _ _ _ _ _ hH) (by simpa using hsz'))
      simp [putRowK, putRow, mapBlock, Sort.ahead]; exact hgs
    have hl : d'.toList.length = l.length := by simpa using hsz'
    have := own_of_holds (s := d'.toList) h hl ?_ (by simpa using hh)
    · rwa [hl] at this
    · refine ⟨cur, ?_, hb, ?_, ?_⟩
      rotate_left
      · simp only [sortWorldK, putRowK, putRow, mapBlock, grow, Sort.ahead]
        rw [Array.getElem?_append_left (by simp; exact hgs), Array.getElem?_modify, if_pos rfl]
        show Option.map _ (w.heap[g]?) = _
        rw [hb]
        rfl
      · simp [putCells]

end Go.Proofs.Ytlhjhdlpejpooab
