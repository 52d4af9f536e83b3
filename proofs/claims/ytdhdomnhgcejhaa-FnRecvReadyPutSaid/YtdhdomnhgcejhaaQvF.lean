/- Chapter 31's draws: l92Limit, l92Stream; where l92Recv stands. -/
import Derived.Test.YtdhdomnhgcejhaaQvX
import Derived.Test.YtdhdomnhgcejhaaDrData
namespace Go.Proofs.Ytdhdomnhgcejhaa
open Go.RowKit
set_option linter.unusedVariables false
set_option linter.unusedSimpArgs false

/-- A valid stream, with what the walks read off. -/
def RvOf (rd fi li : Int) (l : List Pc) : Prop := 0 ≤ rd ∧ rd ≤ 30 ∧ 0 ≤ li ∧ li ≤ 30 ∧ rvok rd l fi li ∧ l.length ≤ 30
theorem RvOf.of {rd fi li : Int} {l : List Pc} (h : rvok rd l fi li) : RvOf rd fi li l := ⟨h.2.1.1, by have := h.2.1.2; have := h.1.2; omega, h.1.1, h.1.2, h, rvok_len h⟩
def RvAf (w : World) (x : Value → Prop) (e : Ending) (w' : World) : Prop :=
  ∃ (rd fi li : Int) (v y : Value) (l : List Pc), e = .returned (.tuple #[.agg #[.int .i64 rd, v, .int .i64 fi, .int .i64 li], y]) ∧ x y ∧ Below w.heap.size w w' ∧ OwnPc w' w.heap.size v l ∧ v ≠ .slice none 0 0 ∧ RvOf rd fi li l
theorem sput_any (v : Value) (l : List Pc) (rd fi li off : Int) (d : ByteArray) (fin : Bool) (B0 : Nat) (w : World) (ho : OwnPc w B0 v l) (hv : v ≠ .slice none 0 0) (hp : RvOf rd fi li l) (h0 : 0 ≤ off) (h1 : off + (d.size : Int) ≤ li) :
    Calls Try.prog 52 #[.agg #[.int .i64 rd, v, .int .i64 fi, .int .i64 li], .int .i64 off, .string d, .bool fin] w (RvAf w (fun y => ∃ x : Int, y = .int .i64 x)) := by
  obtain ⟨f, rfl⟩ := Int.eq_ofNat_of_zero_le h0
  have hv2 := hp.2.2.2.2.1
  refine (l31put_any v l rd fi li f d fin B0 w ho hv hv2 (by have := hp.2.2.2.1; omega)).mono ?_
  rintro e w' ⟨v2, l2, fi2, cc, rfl, hcc, hb2, ho2, hn2, hpu, hsa⟩
  refine ⟨rd, fi2, li, v2, _, l2, rfl, ⟨_, rfl⟩, hb2, ho2, hn2, RvOf.of ?_⟩
  by_cases h : cc = 0
  · exact put_ok hv2 (hcc.symm.trans h) (hpu h)
  · obtain ⟨rfl, rfl⟩ := hsa h; exact hv2
theorem sread_any (v : Value) (l : List Pc) (rd fi li n : Int) (w : World) (h : Pcs w v l) (hp : RvOf rd fi li l) (h0 : 0 ≤ n) (h1 : n ≤ 1000) :
    Calls Try.prog 54 #[.agg #[.int .i64 rd, v, .int .i64 fi, .int .i64 li], .int .i64 n] w (RvAf w (fun y => ∃ s, y = .string s)) := by
  have hv2 := hp.2.2.2.2.1
  refine (sreadf_any v l rd fi li n w h hv2.2.2.1 hp.1 (by have := hp.2.2.2.1; have := hv2.2.2.2.1; omega) (by have := hp.2.2.2.2.2; omega) h0 h1).mono ?_
  rintro e w' ⟨x, v2, l2, s2, rfl, hx, hre, hb2, ho2, hn2⟩
  refine ⟨x, fi, li, v2, _, l2, rfl, ⟨_, rfl⟩, hb2, ho2, hn2, RvOf.of ?_⟩
  rw [hx]
  exact red_ok hv2 (Nat.min_le_right _ _) hre

def foxS : ByteArray := ⟨#[116, 104, 101, 32, 113, 117, 105, 99, 107, 32, 98, 114, 111, 119, 110, 32, 102, 111, 120, 32, 106, 117, 109, 112, 115, 32, 111, 118, 101, 114]⟩
set_option maxRecDepth 100000 in
set_option maxHeartbeats 1000000 in
theorem sstream_any (w : World) : Calls Try.prog 50 #[] w fun e w' => e = .returned (.string foxS) ∧ w = w' := by
  go_enter Try.func50, Try.ntmps50
  go_wp2_with fail
  go_ret
  exact ⟨rfl, rfl⟩
theorem foxS_size : foxS.size = 30 := by rfl

def lbnd (x : Int) : Prop := -1 ≤ x ∧ x ≤ 31
def GotLm (w : World) (b k : Nat) (e : Ending) (w' : World) : Prop := ∃ x : Int, lbnd x ∧ e = .returned (.int .i64 x) ∧ w.grownBy w' (some b) ∧ Rdr w' b (k + 2)

set_option maxRecDepth 100000 in
set_option maxHeartbeats 1000000 in
theorem limit_any (b k : Nat) (w : World) (R : Rdr w b k) (hk : k ≤ 900000) :
    Calls Try.prog 53 #[.pointer (some ⟨b, 0, none⟩)] w (GotLm w b k) := by
  have R0 := Lib.hid R
  go_enter Try.func53, Try.ntmps53
  go_wp2_with fail
  refine (pick_rdr b _ _ _ R0.out (by omega) (by omega) (by omega)).mono ?_
  rintro e w1 ⟨x, hx, rfl, hg1, hR1⟩
  have HG1 := Lib.hid hg1
  have HR1 := Lib.hid hR1
  clear hg1 hR1 R
  by_cases h0 : x = 0
  · subst h0
    have hA := (Below.refl w1.heap.size w1).alloc (Nat.le_refl _) (.cells #[.int .i64 (-1), .int .i64 0, .int .i64 30, .int .i64 31] 3)
    have HR2 := Lib.hid (HR1.out.below hA)
    have hh : (w1.alloc (.cells #[.int .i64 (-1), .int .i64 0, .int .i64 30, .int .i64 31] 3)).heap[w1.heap.size]? = some (.cells #[.int .i64 (-1), .int .i64 0, .int .i64 30, .int .i64 31] 3) := (MapKept.heap_alloc w1 _).1
    have HH := Lib.hid hh
    clear hA hh
    go_wp2_with fail
    refine (pick_rdr b _ _ _ HR2.out (by omega) (by omega) (by omega)).mono ?_
    rintro e w2 ⟨y, hy, rfl, hg2, hR3⟩
    have hne : w1.heap.size ≠ b := by have := HR1.out.1; omega
    have hcell : ∀ j, w2.cell? ⟨w1.heap.size, j, none⟩ = (#[Value.int .i64 (-1), .int .i64 0, .int .i64 30, .int .i64 31])[j]? := fun j => by
      rw [World.cell?_of_block (hg2.block w1.heap.size (by simp) (fun e => hne (by injection e)))]
      unfold World.cell?; rw [HH.out]; rfl
    have HG3 := Lib.hid ((HG1.out.trans (World.grownBy_alloc w1 _ _)).trans hg2)
    have HR3 := Lib.hid hR3
    have hy4 : y = 0 ∨ y = 1 ∨ y = 2 ∨ y = 3 := by omega
    clear hg2 hR3 hne
    rcases hy4 with rfl | rfl | rfl | rfl
    · have c0 := hcell 0
      clear hcell
      go_wp2_with fail
      go_ret
      exact ⟨-1, by unfold lbnd; omega, rfl, HG3.out, HR3.out⟩
    · have c0 := hcell 1
      clear hcell
      go_wp2_with fail
      go_ret
      exact ⟨0, by unfold lbnd; omega, rfl, HG3.out, HR3.out⟩
    · have c0 := hcell 2
      clear hcell
      go_wp2_with fail
      go_ret
      exact ⟨30, by unfold lbnd; omega, rfl, HG3.out, HR3.out⟩
    · have c0 := hcell 3
      clear hcell
      go_wp2_with fail
      go_ret
      exact ⟨31, by unfold lbnd; omega, rfl, HG3.out, HR3.out⟩
  · have hb : ((x : Int) == 0) = false := by rw [beq_eq_false_iff_ne]; omega
    go_wp2_with fail
    refine (pick_rdr b _ _ _ HR1.out (by omega) (by omega) (by omega)).mono ?_
    rintro e w2 ⟨y, hy, rfl, hg2, hR3⟩
    have HG3 := Lib.hid (HG1.out.trans hg2)
    have HR3 := Lib.hid hR3
    clear hg2 hR3
    go_wp2_with fail
    go_ret
    exact ⟨(y : Int), by unfold lbnd; omega, rfl, HG3.out, HR3.out⟩

/-- Where the draw stands: the reader, the result (the first block of its own, not written yet), the variable x (block bx) and its pieces. -/
structure St (w W : World) (b k bx g c : Nat) (rd fi li : Int) (l : List Pc) : Prop where
  grown : w.grownBy W (some b)
  rdr : Rdr W b k
  frm : Frm W bx [.int .i64 rd, .slice (some ⟨g, 0, none⟩) l.length c, .int .i64 fi, .int .i64 li]
  thaw : Thaw W bx
  own : OwnPc W (w.heap.size + 1) (.slice (some ⟨g, 0, none⟩) l.length c) l
  zfrm : Frm W w.heap.size [.int .i64 0, .slice none 0 0, .int .i64 0, .int .i64 0]
  zthaw : Thaw W w.heap.size
  lo : w.heap.size < bx
  hi : bx < W.heap.size
  ne : g ≠ bx
  blt : b < w.heap.size
theorem OwnPc.lt {w : World} {B g n c : Nat} {l : List Pc} (h : OwnPc w B (.slice (some ⟨g, 0, none⟩) n c) l) : B ≤ g ∧ g < w.heap.size := World.ownsRow.lt h g rfl
theorem Frm.kept {w w' : World} {bx : Nat} {vs : List Value} {row : Option Nat} (h : Frm w bx vs) (hg : w.grownBy w' row) (hb : bx < w.heap.size) (hr : some bx ≠ row) : Frm w' bx vs := fun i => by
  rw [World.cell?_of_block (hg.block bx hb hr)]; exact h i
theorem Thaw.kept {w w' : World} {bx : Nat} {row : Option Nat} (h : Thaw w bx) (hg : w.grownBy w' row) (hb : bx < w.heap.size) (hr : some bx ≠ row) : Thaw w' bx := fun i => by
  rw [World.frozen?_of_block (hg.block bx hb hr)]; exact h i
theorem grown_two {w W W' : World} {b : Nat} {row : Option Nat} (h : w.grownBy W (some b)) (hg : W.grownBy W' row) (hr : ∀ r, row = some r → w.heap.size ≤ r ∨ r = b) : w.grownBy W' (some b) :=
  ⟨hg.os.trans h.os, hg.tape.trans h.tape, hg.output.trans h.output, Nat.le_trans h.size hg.size, fun k hk hne => by
    refine (hg.block k (Nat.lt_of_lt_of_le hk h.size) (fun e => ?_)).trans (h.block k hk hne)
    rcases hr k e.symm with h | h
    · omega
    · exact hne (by rw [h])⟩
section
variable {w W W' : World} {b k bx g c : Nat} {rd fi li : Int} {l : List Pc}
/-- One block was written that is none of those that matter. -/
theorem St.kept {row : Option Nat} (h : St w W b k bx g c rd fi li l) (hg : W.grownBy W' row) (hr : ∀ r, row = some r → w.heap.size < r ∧ r ≠ bx ∧ r ≠ g) : St w W' b k bx g c rd fi li l where
  grown := grown_two h.grown hg fun r e => .inl (Nat.le_of_lt (hr r e).1)
  rdr := h.rdr.grown hg fun r e => by have := (hr r e).1; have := h.blt; omega
  frm := h.frm.kept hg h.hi fun e => (hr bx e.symm).2.1 rfl
  thaw := h.thaw.kept hg h.hi fun e => (hr bx e.symm).2.1 rfl
  own := World.ownsRow.kept h.own hg (.inr fun e => (hr g e.symm).2.2 rfl)
  zfrm := h.zfrm.kept hg (Nat.lt_trans h.lo h.hi) fun e => Nat.lt_irrefl _ (hr _ e.symm).1
  zthaw := h.zthaw.kept hg (Nat.lt_trans h.lo h.hi) fun e => Nat.lt_irrefl _ (hr _ e.symm).1
  lo := h.lo
  hi := Nat.lt_of_lt_of_le h.hi hg.size
  ne := h.ne
  blt := h.blt
theorem St.below (h : St w W b k bx g c rd fi li l) (hb : Below W.heap.size W W') : St w W' b k bx g c rd fi li l :=
  h.kept (row := none) ⟨hb.os, hb.tape, hb.output, hb.size, fun i hi _ => hb.block i hi⟩ fun r e => by cases e
theorem St.alloc (h : St w W b k bx g c rd fi li l) (ob : Obj) : St w (W.alloc ob) b k bx g c rd fi li l := h.below ((Below.refl _ _).alloc (Nat.le_refl _) ob)
theorem St.drew (h : St w W b k bx g c rd fi li l) : St w W.drew b k bx g c rd fi li l := h.below (Below.refl _ _).drew
theorem St.pick {k' : Nat} (h : St w W b k bx g c rd fi li l) (hg : W.grownBy W' (some b)) (hR : Rdr W' b k') : St w W' b k' bx g c rd fi li l where
  grown := grown_two h.grown hg fun r e => .inr (by injection e with e; exact e.symm)
  rdr := hR
  frm := h.frm.kept hg h.hi fun e => by injection e with e; have := h.lo; have := h.blt; omega
  thaw := h.thaw.kept hg h.hi fun e => by injection e with e; have := h.lo; have := h.blt; omega
  own := World.ownsRow.kept h.own hg (.inr fun e => by have e' : g = b := Option.some.inj e; have := h.own.lt.1; have := h.blt; omega)
  zfrm := h.zfrm.kept hg (Nat.lt_trans h.lo h.hi) fun e => by injection e with e; have := h.blt; omega
  zthaw := h.zthaw.kept hg (Nat.lt_trans h.lo h.hi) fun e => by injection e with e; have := h.blt; omega
  lo := h.lo
  hi := Nat.lt_of_lt_of_le h.hi hg.size
  ne := h.ne
  blt := h.blt
theorem St.le {k' : Nat} (h : St w W b k bx g c rd fi li l) (hk : k ≤ k') : St w W b k' bx g c rd fi li l := { h with rdr := h.rdr.le hk }
theorem grown_cell (W : World) (q j : Nat) (u : Value) : W.grownBy (W.setCell ⟨q, j, none⟩ u) (some q) :=
  ⟨rfl, rfl, rfl, by simp, fun k _ hk => Below.heap_setCell _ _ _ _ (fun e => hk (by rw [e]))⟩
theorem St.far (h : St w W b k bx g c rd fi li l) {q : Nat} (hq : w.heap.size < q) (h1 : q ≠ bx) (h2 : q ≠ g) (j : Nat) (u : Value) : St w (W.setCell ⟨q, j, none⟩ u) b k bx g c rd fi li l :=
  h.kept (grown_cell W q j u) fun r e => by injection e with e; subst e; exact ⟨hq, h1, h2⟩
/-- The variable x is written anew. -/
theorem St.put {rd' fi' li' : Int} {g' c' : Nat} {l' : List Pc} (h : St w W b k bx g c rd fi li l) (O : OwnPc W (w.heap.size + 1) (.slice (some ⟨g', 0, none⟩) l'.length c') l') (hn : g' ≠ bx) :
    St w ((((W.setCell ⟨bx, 0, none⟩ (.int .i64 rd')).setCell ⟨bx, 1, none⟩ (.slice (some ⟨g', 0, none⟩) l'.length c')).setCell ⟨bx, 2, none⟩ (.int .i64 fi')).setCell ⟨bx, 3, none⟩ (.int .i64 li')) b k bx g' c' rd' fi' li' l' := by
  have hne : ∀ x, (Value.slice (some ⟨g', 0, none⟩) l'.length c').ownBlock = some x → bx ≠ x := fun x hx => by
    have hx' : g' = x := Option.some.inj hx
    omega
  have G1 := (((grown_cell W bx 0 (.int .i64 rd')).trans (grown_cell _ bx 1 (.slice (some ⟨g', 0, none⟩) l'.length c'))).trans (grown_cell _ bx 2 (.int .i64 fi'))).trans (grown_cell _ bx 3 (.int .i64 li'))
  exact {
    grown := grown_two h.grown G1 fun r e => .inl (by injection e with e; have := h.lo; omega)
    rdr := h.rdr.grown G1 fun r e => by injection e with e; have := h.lo; have := h.blt; omega
    frm := (((h.frm.set (i := 0) (by simp) (.int .i64 rd')).set (i := 1) (by simp) (.slice (some ⟨g', 0, none⟩) l'.length c')).set (i := 2) (by simp) (.int .i64 fi')).set (i := 3) (by simp) (.int .i64 li')
    thaw := (((h.thaw.set _ _).set _ _).set _ _).set _ _
    zfrm := (((h.zfrm.far (by have := h.lo; omega) _).far (by have := h.lo; omega) _).far (by have := h.lo; omega) _).far (by have := h.lo; omega) _
    zthaw := (((h.zthaw.set _ _).set _ _).set _ _).set _ _
    own := own_far (i := 3) (u := .int .i64 li') (own_far (i := 2) (u := .int .i64 fi') (own_far (i := 1) (u := .slice (some ⟨g', 0, none⟩) l'.length c') (own_far (i := 0) (u := .int .i64 rd') O hne) hne) hne) hne
    lo := h.lo
    hi := Nat.lt_of_lt_of_le h.hi G1.size
    ne := hn
    blt := h.blt }
/-- One number of x is written anew. -/
theorem St.set0 (h : St w W b k bx g c rd fi li l) (x : Int) : St w (W.setCell ⟨bx, 0, none⟩ (.int .i64 x)) b k bx g c x fi li l where
  grown := grown_two h.grown (grown_cell W bx 0 _) fun r e => .inl (by injection e with e; have := h.lo; omega)
  rdr := h.rdr.grown (grown_cell W bx 0 _) fun r e => by injection e with e; have := h.lo; have := h.blt; omega
  frm := h.frm.set (i := 0) (by simp) (.int .i64 x)
  thaw := h.thaw.set _ _
  zfrm := h.zfrm.far (by have := h.lo; omega) _
  zthaw := h.zthaw.set _ _
  own := own_far h.own (fun x hx => by have hx' : g = x := Option.some.inj hx; have := h.ne; omega)
  lo := h.lo
  hi := by simpa using h.hi
  ne := h.ne
  blt := h.blt
theorem St.set2 (h : St w W b k bx g c rd fi li l) (x : Int) : St w (W.setCell ⟨bx, 2, none⟩ (.int .i64 x)) b k bx g c rd x li l where
  grown := grown_two h.grown (grown_cell W bx 2 _) fun r e => .inl (by injection e with e; have := h.lo; omega)
  rdr := h.rdr.grown (grown_cell W bx 2 _) fun r e => by injection e with e; have := h.lo; have := h.blt; omega
  frm := h.frm.set (i := 2) (by simp) (.int .i64 x)
  thaw := h.thaw.set _ _
  zfrm := h.zfrm.far (by have := h.lo; omega) _
  zthaw := h.zthaw.set _ _
  own := own_far h.own (fun x hx => by have hx' : g = x := Option.some.inj hx; have := h.ne; omega)
  lo := h.lo
  hi := by simpa using h.hi
  ne := h.ne
  blt := h.blt
theorem St.set3 (h : St w W b k bx g c rd fi li l) (x : Int) : St w (W.setCell ⟨bx, 3, none⟩ (.int .i64 x)) b k bx g c rd fi x l where
  grown := grown_two h.grown (grown_cell W bx 3 _) fun r e => .inl (by injection e with e; have := h.lo; omega)
  rdr := h.rdr.grown (grown_cell W bx 3 _) fun r e => by injection e with e; have := h.lo; have := h.blt; omega
  frm := h.frm.set (i := 3) (by simp) (.int .i64 x)
  thaw := h.thaw.set _ _
  zfrm := h.zfrm.far (by have := h.lo; omega) _
  zthaw := h.zthaw.set _ _
  own := own_far h.own (fun x hx => by have hx' : g = x := Option.some.inj hx; have := h.ne; omega)
  lo := h.lo
  hi := by simpa using h.hi
  ne := h.ne
  blt := h.blt
/-- What the walk of a region keeps: the four cells, and where it stands. -/
theorem St.cells (h : St w W b k bx g c rd fi li l) : W.cell? ⟨bx, 0, none⟩ = some (.int .i64 rd) ∧ W.cell? ⟨bx, 1, none⟩ = some (.slice (some ⟨g, 0, none⟩) l.length c) ∧ W.cell? ⟨bx, 2, none⟩ = some (.int .i64 fi) ∧ W.cell? ⟨bx, 3, none⟩ = some (.int .i64 li) :=
  ⟨h.frm 0, h.frm 1, h.frm 2, h.frm 3⟩
/-- A variable of block q holds the answer of a call, behind the four stores. -/
theorem st_out {q g' c' : Nat} {rd' fi' li' : Int} {l' : List Pc} (h : St w W b k bx g c rd fi li l) (hq : w.heap.size < q) (h1 : q ≠ bx) (h2 : q ≠ g) (h3 : q ≠ g') (FZ : Frm W q [.int .i64 0, .slice none 0 0, .int .i64 0, .int .i64 0]) (O : OwnPc W (w.heap.size + 1) (.slice (some ⟨g', 0, none⟩) l'.length c') l') :
    St w ((((W.setCell ⟨q, 0, none⟩ (.int .i64 rd')).setCell ⟨q, 1, none⟩ (.slice (some ⟨g', 0, none⟩) l'.length c')).setCell ⟨q, 2, none⟩ (.int .i64 fi')).setCell ⟨q, 3, none⟩ (.int .i64 li')) b k bx g c rd fi li l ∧
    Frm ((((W.setCell ⟨q, 0, none⟩ (.int .i64 rd')).setCell ⟨q, 1, none⟩ (.slice (some ⟨g', 0, none⟩) l'.length c')).setCell ⟨q, 2, none⟩ (.int .i64 fi')).setCell ⟨q, 3, none⟩ (.int .i64 li')) q [.int .i64 rd', .slice (some ⟨g', 0, none⟩) l'.length c', .int .i64 fi', .int .i64 li'] ∧
    OwnPc ((((W.setCell ⟨q, 0, none⟩ (.int .i64 rd')).setCell ⟨q, 1, none⟩ (.slice (some ⟨g', 0, none⟩) l'.length c')).setCell ⟨q, 2, none⟩ (.int .i64 fi')).setCell ⟨q, 3, none⟩ (.int .i64 li')) (w.heap.size + 1) (.slice (some ⟨g', 0, none⟩) l'.length c') l' := by
  have hne : ∀ x, (Value.slice (some ⟨g', 0, none⟩) l'.length c').ownBlock = some x → q ≠ x := fun x hx => by
    have hx' : g' = x := Option.some.inj hx
    omega
  exact ⟨(((h.far hq h1 h2 0 _).far hq h1 h2 1 _).far hq h1 h2 2 _).far hq h1 h2 3 _,
    (((FZ.set (i := 0) (by simp) (.int .i64 rd')).set (i := 1) (by simp) (.slice (some ⟨g', 0, none⟩) l'.length c')).set (i := 2) (by simp) (.int .i64 fi')).set (i := 3) (by simp) (.int .i64 li'),
    own_far (i := 3) (u := .int .i64 li') (own_far (i := 2) (u := .int .i64 fi') (own_far (i := 1) (u := .slice (some ⟨g', 0, none⟩) l'.length c') (own_far (i := 0) (u := .int .i64 rd') O hne) hne) hne) hne⟩
theorem st_new {g' c' : Nat} {rd' fi' li' : Int} {l' : List Pc} (h : St w W b k bx g c rd fi li l) (O : OwnPc W (w.heap.size + 1) (.slice (some ⟨g', 0, none⟩) l'.length c') l') :
    St w (W.alloc (.cells #[.int .i64 rd', .slice (some ⟨g', 0, none⟩) l'.length c', .int .i64 fi', .int .i64 li'] 30)) b k bx g c rd fi li l ∧
    Frm (W.alloc (.cells #[.int .i64 rd', .slice (some ⟨g', 0, none⟩) l'.length c', .int .i64 fi', .int .i64 li'] 30)) W.heap.size [.int .i64 rd', .slice (some ⟨g', 0, none⟩) l'.length c', .int .i64 fi', .int .i64 li'] ∧
    OwnPc (W.alloc (.cells #[.int .i64 rd', .slice (some ⟨g', 0, none⟩) l'.length c', .int .i64 fi', .int .i64 li'] 30)) (w.heap.size + 1) (.slice (some ⟨g', 0, none⟩) l'.length c') l' :=
  ⟨h.alloc _, Frm.new W 30 [.int .i64 rd', .slice (some ⟨g', 0, none⟩) l'.length c', .int .i64 fi', .int .i64 li'], O.below ((Below.refl _ _).alloc (Nat.le_refl _) _)⟩
/-- The result is written. -/
theorem St.fin (h : St w W b k bx g c rd fi li l) :
    w.grownBy ((((W.setCell ⟨w.heap.size, 0, none⟩ (.int .i64 rd)).setCell ⟨w.heap.size, 1, none⟩ (.slice (some ⟨g, 0, none⟩) l.length c)).setCell ⟨w.heap.size, 2, none⟩ (.int .i64 fi)).setCell ⟨w.heap.size, 3, none⟩ (.int .i64 li)) (some b) ∧
    Rdr ((((W.setCell ⟨w.heap.size, 0, none⟩ (.int .i64 rd)).setCell ⟨w.heap.size, 1, none⟩ (.slice (some ⟨g, 0, none⟩) l.length c)).setCell ⟨w.heap.size, 2, none⟩ (.int .i64 fi)).setCell ⟨w.heap.size, 3, none⟩ (.int .i64 li)) b k ∧
    Frm ((((W.setCell ⟨w.heap.size, 0, none⟩ (.int .i64 rd)).setCell ⟨w.heap.size, 1, none⟩ (.slice (some ⟨g, 0, none⟩) l.length c)).setCell ⟨w.heap.size, 2, none⟩ (.int .i64 fi)).setCell ⟨w.heap.size, 3, none⟩ (.int .i64 li)) w.heap.size [.int .i64 rd, .slice (some ⟨g, 0, none⟩) l.length c, .int .i64 fi, .int .i64 li] ∧
    OwnPc ((((W.setCell ⟨w.heap.size, 0, none⟩ (.int .i64 rd)).setCell ⟨w.heap.size, 1, none⟩ (.slice (some ⟨g, 0, none⟩) l.length c)).setCell ⟨w.heap.size, 2, none⟩ (.int .i64 fi)).setCell ⟨w.heap.size, 3, none⟩ (.int .i64 li)) w.heap.size (.slice (some ⟨g, 0, none⟩) l.length c) l := by
  have hne : ∀ x, (Value.slice (some ⟨g, 0, none⟩) l.length c).ownBlock = some x → w.heap.size ≠ x := fun x hx => by
    have hx' : g = x := Option.some.inj hx
    have := h.own.lt.1
    omega
  have G1 := (((grown_cell W w.heap.size 0 (.int .i64 rd)).trans (grown_cell _ w.heap.size 1 (.slice (some ⟨g, 0, none⟩) l.length c))).trans (grown_cell _ w.heap.size 2 (.int .i64 fi))).trans (grown_cell _ w.heap.size 3 (.int .i64 li))
  exact ⟨grown_two h.grown G1 fun r e => .inl (by injection e with e; omega),
    h.rdr.grown G1 fun r e => by injection e with e; have := h.blt; omega,
    (((h.zfrm.set (i := 0) (by simp) (.int .i64 rd)).set (i := 1) (by simp) (.slice (some ⟨g, 0, none⟩) l.length c)).set (i := 2) (by simp) (.int .i64 fi)).set (i := 3) (by simp) (.int .i64 li),
    OwnPc.lower (own_far (i := 3) (u := .int .i64 li) (own_far (i := 2) (u := .int .i64 fi) (own_far (i := 1) (u := .slice (some ⟨g, 0, none⟩) l.length c) (own_far (i := 0) (u := .int .i64 rd) h.own hne) hne) hne) hne) (Nat.le_succ _)⟩
theorem St.all (h : St w W b k bx g c rd fi li l) : W.cell? ⟨bx, 0, none⟩ = some (.int .i64 rd) ∧ W.cell? ⟨bx, 1, none⟩ = some (.slice (some ⟨g, 0, none⟩) l.length c) ∧ W.cell? ⟨bx, 2, none⟩ = some (.int .i64 fi) ∧ W.cell? ⟨bx, 3, none⟩ = some (.int .i64 li) ∧ St w W b k bx g c rd fi li l := ⟨h.frm 0, h.frm 1, h.frm 2, h.frm 3, h⟩
end
theorem fox_part (a e : Nat) (h : a ≤ e) (he : e ≤ 30) : (foxS.extract a e).size = e - a := by
  rw [ByteArray.size_extract, foxS_size]; omega

end Go.Proofs.Ytdhdomnhgcejhaa
