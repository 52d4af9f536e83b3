/- Linked lists of packets: nodes, what a list's head holds. -/
import Derived.Test.YtccolpaenmebeaaPk
namespace Go.Proofs.Ytccolpaenmebeaa
open Go.RowKit
set_option linter.unusedVariables false
set_option linter.unusedSimpArgs false

/-- A pointer to a block, or to none. -/
def pv (b : Option Nat) : Value := .pointer (b.map fun q => ⟨q, 0, none⟩)
theorem pv_some (b : Nat) : pv (some b) = .pointer (some ⟨b, 0, none⟩) := rfl
theorem pv_none : pv none = .pointer none := rfl
/-- The nodes of a list: blocks and packets. -/
abbrev Cs := List (Nat × Pk)
def hdB (cs : Cs) : Option Nat := cs.head?.map (·.1)
theorem hdB_cons (x : Nat × Pk) (t : Cs) : hdB (x :: t) = some x.1 := rfl
theorem hdB_nil : hdB [] = none := rfl
theorem hdB_app {a b c : Cs} (h : a ≠ []) : hdB (a ++ b) = hdB (a ++ c) := by
  cases a with
  | nil => exact absurd rfl h
  | cons x t => rfl

/-- A node: a packet, the next node. -/
structure NodeAt (w : World) (b : Nat) (p : Pk) (nx : Option Nat) : Prop where
  c0 : w.cell? ⟨b, 0, none⟩ = some (.int .i64 p.1)
  c1 : w.cell? ⟨b, 1, none⟩ = some (.int .i64 p.2.1)
  c2 : w.cell? ⟨b, 2, none⟩ = some (.int .i64 p.2.2)
  c3 : w.cell? ⟨b, 3, none⟩ = some (pv nx)
  fz : ∀ i, w.frozen? ⟨b, i, none⟩ = false
theorem NodeAt.lt {w : World} {b : Nat} {p : Pk} {nx : Option Nat} (h : NodeAt w b p nx) : b < w.heap.size := World.block_lt_of_cell? w _ h.c0
theorem NodeAt.keep {w w' : World} {b : Nat} {p : Pk} {nx : Option Nat} (h : NodeAt w b p nx) (k : w'.heap[b]? = w.heap[b]?) : NodeAt w' b p nx := by
  have e : ∀ i, w'.cell? ⟨b, i, none⟩ = w.cell? ⟨b, i, none⟩ := fun i => World.cell?_of_block (w := w) k
  exact ⟨(e 0).trans h.c0, (e 1).trans h.c1, (e 2).trans h.c2, (e 3).trans h.c3, fun i => (World.frozen?_of_block (w := w) k).trans (h.fz i)⟩
theorem NodeAt.set3 {w : World} {b : Nat} {p : Pk} {nx : Option Nat} (h : NodeAt w b p nx) (ny : Option Nat) : NodeAt (w.setCell ⟨b, 3, none⟩ (pv ny)) b p ny :=
  ⟨(World.cell?_setCell_other _ _ _ _ (by simp)).trans h.c0, (World.cell?_setCell_other _ _ _ _ (by simp)).trans h.c1, (World.cell?_setCell_other _ _ _ _ (by simp)).trans h.c2, World.cell?_setCell_same _ _ _ h.c3, fun i => by rw [World.frozen?_setCell]; exact h.fz i⟩
theorem NodeAt.new (w : World) (p : Pk) (T : TypeId) : NodeAt (w.alloc (.cells #[.int .i64 p.1, .int .i64 p.2.1, .int .i64 p.2.2, .pointer none] T)) w.heap.size p none := by
  refine ⟨?_, ?_, ?_, ?_, fun i => World.frozen?_alloc_at _ _ _ i rfl⟩ <;> (rw [World.cell?_alloc_mark]; rfl)
/-- One block stands as it was. -/
theorem keep_set {w : World} {b c i : Nat} {v : Value} (h : c ≠ b) : (w.setCell ⟨c, i, none⟩ v).heap[b]? = w.heap[b]? := by
  unfold World.setCell
  simp only
  rw [Array.getElem?_modify, if_neg h]

/-- Nodes that lead from one to the next, and the last to none. -/
def Ch (w : World) : Cs → Prop
  | [] => True
  | x :: t => NodeAt w x.1 x.2 (hdB t) ∧ Ch w t
theorem Ch.keep {w w' : World} : ∀ {cs : Cs}, Ch w cs → (∀ x ∈ cs, w'.heap[x.1]? = w.heap[x.1]?) → Ch w' cs
  | [], _, _ => trivial
  | x :: t, h, k => ⟨h.1.keep (k x (List.mem_cons_self ..)), Ch.keep h.2 fun y hy => k y (List.mem_cons_of_mem _ hy)⟩
theorem Ch.lt {w : World} : ∀ {cs : Cs}, Ch w cs → ∀ x ∈ cs, x.1 < w.heap.size
  | [], _, _, hx => by cases hx
  | y :: t, h, x, hx => by
    rcases List.mem_cons.1 hx with rfl | hx
    · exact h.1.lt
    · exact Ch.lt h.2 x hx
theorem Ch.drop {w : World} : ∀ {a b : Cs}, Ch w (a ++ b) → Ch w b
  | [], _, h => h
  | _ :: t, _, h => Ch.drop (a := t) h.2
/-- A node's pointer is turned to another list. -/
theorem Ch.turn {w w' : World} {b : Nat} {p : Pk} {ts ts' : Cs} (hs : NodeAt w' b p (hdB ts')) (ht : Ch w' ts') : ∀ {ini : Cs}, Ch w (ini ++ (b, p) :: ts) → (∀ x ∈ ini, w'.heap[x.1]? = w.heap[x.1]?) → Ch w' (ini ++ (b, p) :: ts')
  | [], _, _ => ⟨hs, ht⟩
  | x :: t, h, k => by
    refine ⟨?_, Ch.turn hs ht h.2 fun y hy => k y (List.mem_cons_of_mem _ hy)⟩
    have := h.1.keep (k x (List.mem_cons_self ..))
    cases t with
    | nil => exact this
    | cons y t => exact this

/-- A flight's list: its block f, its nodes cs (the first bears no packet), all from block B on; the packets l. -/
structure Fl (w : World) (B f : Nat) (cs : Cs) (l : List Pk) : Prop where
  ch : Ch w cs
  nd : (f :: cs.map (·.1)).Nodup
  lo : B ≤ f ∧ ∀ x ∈ cs, B ≤ x.1
  c0 : w.cell? ⟨f, 0, none⟩ = some (pv (hdB cs))
  c1 : ∃ ini b p, cs = ini ++ [(b, p)] ∧ w.cell? ⟨f, 1, none⟩ = some (pv (some b))
  fz : ∀ i, w.frozen? ⟨f, i, none⟩ = false
  val : cs.map (·.2) = pkD :: l
theorem Fl.lt {w : World} {B f : Nat} {cs : Cs} {l : List Pk} (h : Fl w B f cs l) : f < w.heap.size := World.block_lt_of_cell? w _ h.c0
/-- The blocks of a flight's list. -/
def FB (f : Nat) (cs : Cs) (b : Nat) : Prop := b = f ∨ ∃ x ∈ cs, b = x.1
theorem Fl.keep {w w' : World} {B f : Nat} {cs : Cs} {l : List Pk} (h : Fl w B f cs l) (k : ∀ b, FB f cs b → w'.heap[b]? = w.heap[b]?) : Fl w' B f cs l := by
  have hf := k f (.inl rfl)
  obtain ⟨ini, b, p, e, hc⟩ := h.c1
  exact ⟨h.ch.keep fun x hx => k _ (.inr ⟨x, hx, rfl⟩), h.nd, h.lo, (World.cell?_of_block (w := w) hf).trans h.c0, ⟨ini, b, p, e, (World.cell?_of_block (w := w) hf).trans hc⟩, fun i => (World.frozen?_of_block (w := w) hf).trans (h.fz i), h.val⟩
theorem Fl.flt {w : World} {B f : Nat} {cs : Cs} {l : List Pk} (h : Fl w B f cs l) {b : Nat} (hb : FB f cs b) : b < w.heap.size ∧ B ≤ b := by
  rcases hb with rfl | ⟨x, hx, rfl⟩
  · exact ⟨h.lt, h.lo.1⟩
  · exact ⟨h.ch.lt x hx, h.lo.2 x hx⟩
theorem Fl.below {w w' : World} {B f : Nat} {cs : Cs} {l : List Pk} (h : Fl w B f cs l) (hb : Below w.heap.size w w') : Fl w' B f cs l := h.keep fun b k => hb.block b (h.flt k).1
theorem Fl.grown {w w' : World} {B f : Nat} {cs : Cs} {l : List Pk} {row : Option Nat} (h : Fl w B f cs l) (hg : w.grownBy w' row) (hr : ∀ b, FB f cs b → some b ≠ row) : Fl w' B f cs l := h.keep fun b k => hg.block b (h.flt k).1 (hr b k)
theorem Fl.far {w : World} {B f c i : Nat} {v : Value} {cs : Cs} {l : List Pk} (h : Fl w B f cs l) (hc : ¬ FB f cs c) : Fl (w.setCell ⟨c, i, none⟩ v) B f cs l := h.keep fun b k => keep_set fun e => hc (e ▸ k)
theorem Fl.lower {w : World} {B B' f : Nat} {cs : Cs} {l : List Pk} (h : Fl w B f cs l) (hB : B' ≤ B) : Fl w B' f cs l := ⟨h.ch, h.nd, ⟨by have := h.lo.1; omega, fun x hx => by have := h.lo.2 x hx; omega⟩, h.c0, h.c1, h.fz, h.val⟩
/-- The first node, the nodes behind it. -/
theorem Fl.head {w : World} {B f : Nat} {cs : Cs} {l : List Pk} (h : Fl w B f cs l) : ∃ s t, cs = (s, pkD) :: t ∧ t.map (·.2) = l := by
  have := h.val
  cases cs with
  | nil => cases this
  | cons x t =>
    simp only [List.map_cons, List.cons.injEq] at this
    exact ⟨x.1, t, by rw [← this.1], this.2⟩
/-- A new list without packets. -/
theorem Fl.new (w : World) (B : Nat) (T U : TypeId) (hB : B ≤ w.heap.size) :
    Fl ((w.alloc (.cells #[.int .i64 0, .int .i64 0, .int .i64 0, .pointer none] T)).alloc (.cells #[.pointer (some ⟨w.heap.size, 0, none⟩), .pointer (some ⟨w.heap.size, 0, none⟩)] U)) B (w.heap.size + 1) [(w.heap.size, pkD)] [] := by
  have hs : (w.alloc (.cells #[.int .i64 0, .int .i64 0, .int .i64 0, .pointer none] T)).heap.size = w.heap.size + 1 := by simp
  have N := (NodeAt.new w pkD T).keep (((Below.refl (w.heap.size + 1) (w.alloc (.cells #[.int .i64 0, .int .i64 0, .int .i64 0, .pointer none] T))).alloc (by simp) (.cells #[.pointer (some ⟨w.heap.size, 0, none⟩), .pointer (some ⟨w.heap.size, 0, none⟩)] U)).block w.heap.size (Nat.lt_succ_self _))
  refine ⟨⟨N, trivial⟩, by simp, ⟨by omega, by simpa using hB⟩, ?_, ⟨[], _, _, rfl, ?_⟩, fun i => ?_, rfl⟩
  · rw [← hs, World.cell?_alloc_mark]; rfl
  · rw [← hs, World.cell?_alloc_mark]; rfl
  · rw [← hs]; exact World.frozen?_alloc_at _ _ _ i rfl
/-- One packet more: a new node n behind the last one, at block b. -/
theorem Fl.add {w w' : World} {B f n b : Nat} {cs ini : Cs} {q p : Pk} {l : List Pk} (h : Fl w B f cs l) (e : cs = ini ++ [(b, q)]) (hn : w.heap.size ≤ n) (hN : NodeAt w' n p none) (hb : NodeAt w' b q (some n)) (hk : ∀ x ∈ ini, w'.heap[x.1]? = w.heap[x.1]?)
    (h0 : w'.cell? ⟨f, 0, none⟩ = w.cell? ⟨f, 0, none⟩) (h1 : w'.cell? ⟨f, 1, none⟩ = some (pv (some n))) (hf : ∀ i, w'.frozen? ⟨f, i, none⟩ = false) (hB : B ≤ w.heap.size) : Fl w' B f (cs ++ [(n, p)]) (l ++ [p]) := by
  have hlt := fun x hx => h.ch.lt x hx
  refine ⟨?_, ?_, ⟨h.lo.1, fun x hx => ?_⟩, ?_, ⟨cs, n, p, rfl, h1⟩, hf, ?_⟩
  · subst e
    rw [List.append_assoc]
    exact Ch.turn (w := w) (ts := []) (ts' := [(n, p)]) hb (show Ch w' [(n, p)] from ⟨hN, trivial⟩) h.ch hk
  · have hnd := h.nd
    have hfl := h.lt
    rw [List.map_append, ← List.cons_append, List.nodup_append]
    refine ⟨hnd, by simp, fun x hx y hy => ?_⟩
    simp only [List.map_cons, List.map_nil, List.mem_singleton] at hy
    subst hy
    rcases List.mem_cons.1 hx with rfl | hx
    · omega
    · obtain ⟨z, hz, rfl⟩ := List.mem_map.1 hx
      have := hlt z hz; omega
  · rcases List.mem_append.1 hx with hx | hx
    · exact h.lo.2 x hx
    · rw [List.mem_singleton] at hx; subst hx; show B ≤ n; omega
  · rw [h0, h.c0]
    congr 2
    subst e
    cases ini <;> rfl
  · rw [List.map_append, h.val]; rfl



structure Fm (w : World) (B f : Nat) (ini : Cs) (b : Nat) (q : Pk) (ts : Cs) : Prop where
  ch : Ch w (ini ++ (b, q) :: ts)
  nd : (f :: (ini ++ (b, q) :: ts).map (·.1)).Nodup
  lo : B ≤ f ∧ ∀ x ∈ ini ++ (b, q) :: ts, B ≤ x.1
  c0 : w.cell? ⟨f, 0, none⟩ = some (pv (hdB (ini ++ [(b, q)])))
  c1 : ∃ v, w.cell? ⟨f, 1, none⟩ = some v
  fz : ∀ i, w.frozen? ⟨f, i, none⟩ = false
theorem Fm.lt {w : World} {B f b : Nat} {ini ts : Cs} {q : Pk} (h : Fm w B f ini b q ts) : f < w.heap.size := World.block_lt_of_cell? w _ h.c0
theorem Fm.flt {w : World} {B f b : Nat} {ini ts : Cs} {q : Pk} (h : Fm w B f ini b q ts) {c : Nat} (hb : FB f (ini ++ (b, q) :: ts) c) : c < w.heap.size ∧ B ≤ c := by
  rcases hb with rfl | ⟨x, hx, rfl⟩
  · exact ⟨h.lt, h.lo.1⟩
  · exact ⟨h.ch.lt x hx, h.lo.2 x hx⟩
theorem Fm.keep {w w' : World} {B f b : Nat} {ini ts : Cs} {q : Pk} (h : Fm w B f ini b q ts) (k : ∀ c, FB f (ini ++ (b, q) :: ts) c → w'.heap[c]? = w.heap[c]?) : Fm w' B f ini b q ts := by
  have hf := k f (.inl rfl)
  obtain ⟨v, hc⟩ := h.c1
  exact ⟨h.ch.keep fun x hx => k _ (.inr ⟨x, hx, rfl⟩), h.nd, h.lo, (World.cell?_of_block (w := w) hf).trans h.c0, ⟨v, (World.cell?_of_block (w := w) hf).trans hc⟩, fun i => (World.frozen?_of_block (w := w) hf).trans (h.fz i)⟩
theorem Fm.below {w w' : World} {B f b : Nat} {ini ts : Cs} {q : Pk} (h : Fm w B f ini b q ts) (hb : Below w.heap.size w w') : Fm w' B f ini b q ts := h.keep fun c k => hb.block c (h.flt k).1
theorem Fm.grown {w w' : World} {B f b : Nat} {ini ts : Cs} {q : Pk} {row : Option Nat} (h : Fm w B f ini b q ts) (hg : w.grownBy w' row) (hr : ∀ c, FB f (ini ++ (b, q) :: ts) c → some c ≠ row) : Fm w' B f ini b q ts := h.keep fun c k => hg.block c (h.flt k).1 (hr c k)
theorem Fm.start {w : World} {B f s : Nat} {t : Cs} {l : List Pk} (h : Fl w B f ((s, pkD) :: t) l) : Fm w B f [] s pkD t := by
  obtain ⟨ini, b, p, _, hc⟩ := h.c1
  exact ⟨h.ch, h.nd, h.lo, h.c0, ⟨_, hc⟩, h.fz⟩
theorem Fm.next {w : World} {B f b c : Nat} {ini ts : Cs} {q p : Pk} (h : Fm w B f ini b q ((c, p) :: ts)) : Fm w B f (ini ++ [(b, q)]) c p ts := by
  have e : ini ++ (b, q) :: (c, p) :: ts = (ini ++ [(b, q)]) ++ (c, p) :: ts := by simp
  obtain ⟨h1, h2, h3, h4, h5, h6⟩ := h
  rw [e] at h1 h2 h3
  exact ⟨h1, h2, h3, by rw [h4, hdB_app (a := ini ++ [(b, q)]) (b := [(c, p)]) (c := []) (by simp), List.append_nil], h5, h6⟩
theorem Fm.node {w : World} {B f b : Nat} {ini ts : Cs} {q : Pk} (h : Fm w B f ini b q ts) : NodeAt w b q (hdB ts) := (Ch.drop (a := ini) h.ch).1
theorem Fm.node2 {w : World} {B f b c : Nat} {ini ts : Cs} {q p : Pk} (h : Fm w B f ini b q ((c, p) :: ts)) : NodeAt w c p (hdB ts) := (Ch.drop (a := ini) h.ch).2.1
theorem Fm.apart {w : World} {B f b : Nat} {ini ts : Cs} {q : Pk} (h : Fm w B f ini b q ts) : f ≠ b ∧ (∀ x ∈ ini, x.1 ≠ b) ∧ ∀ x ∈ ts, x.1 ≠ b := by
  have hnd := h.nd
  rw [List.nodup_cons, List.map_append, List.nodup_append, List.map_cons, List.nodup_cons] at hnd
  obtain ⟨h1, h2, ⟨h3, h4⟩, h5⟩ := hnd
  refine ⟨fun e => h1 (by simp [e]), fun x hx => ?_, fun x hx e => h3 (List.mem_map.2 ⟨x, hx, e⟩)⟩
  exact h5 x.1 (List.mem_map_of_mem hx) b (by simp)
/-- The node behind the kept one is cut out. -/
theorem Fm.cut {w : World} {B f b c : Nat} {ini ts : Cs} {q p : Pk} (h : Fm w B f ini b q ((c, p) :: ts)) : Fm (w.setCell ⟨b, 3, none⟩ (pv (hdB ts))) B f ini b q ts ∧ NodeAt (w.setCell ⟨b, 3, none⟩ (pv (hdB ts))) c p (hdB ts) := by
  obtain ⟨a1, a2, a3⟩ := h.apart
  have hcb : b ≠ c := fun e => a3 (c, p) (List.mem_cons_self ..) e.symm
  have hsub : (ini ++ (b, q) :: ts).Sublist (ini ++ (b, q) :: (c, p) :: ts) := List.Sublist.append_left (by simp) _
  obtain ⟨v, hv⟩ := h.c1
  refine ⟨⟨?_, ?_, ⟨h.lo.1, fun x hx => h.lo.2 x (hsub.subset hx)⟩, ?_, ⟨v, ?_⟩, fun i => ?_⟩, h.node2.keep (keep_set hcb)⟩
  · refine Ch.turn (w := w) (ts := (c, p) :: ts) (h.node.set3 _) ?_ h.ch (fun x hx => keep_set fun e => a2 x hx e.symm)
    exact (Ch.drop (a := ini) h.ch).2.2.keep fun x hx => keep_set fun e => a3 x (List.mem_cons_of_mem _ hx) e.symm
  · exact h.nd.sublist ((hsub.map (·.1)).cons_cons f)
  · exact (World.cell?_of_block (w := w) (keep_set (fun e => a1 e.symm))).trans h.c0
  · exact (World.cell?_of_block (w := w) (keep_set (fun e => a1 e.symm))).trans hv
  · rw [World.frozen?_setCell]; exact h.fz i
/-- At the end the last pointer is turned to the last node. -/
theorem Fm.done {w : World} {B f b : Nat} {ini : Cs} {q : Pk} {l : List Pk} (h : Fm w B f ini b q []) (hv : (ini ++ [(b, q)]).map (·.2) = pkD :: l) : Fl (w.setCell ⟨f, 1, none⟩ (.pointer (some ⟨b, 0, none⟩))) B f (ini ++ [(b, q)]) l := by
  obtain ⟨v, hc⟩ := h.c1
  have hnf : ∀ x ∈ ini ++ [(b, q)], f ≠ x.1 := fun x hx e => (List.nodup_cons.1 h.nd).1 (e ▸ List.mem_map_of_mem hx)
  exact ⟨h.ch.keep fun x hx => keep_set (hnf x hx), h.nd, h.lo, (World.cell?_setCell_other _ _ _ _ (by simp)).trans h.c0, ⟨ini, b, q, rfl, World.cell?_setCell_same _ _ _ hc⟩, fun i => by rw [World.frozen?_setCell]; exact h.fz i, hv⟩

end Go.Proofs.Ytccolpaenmebeaa
