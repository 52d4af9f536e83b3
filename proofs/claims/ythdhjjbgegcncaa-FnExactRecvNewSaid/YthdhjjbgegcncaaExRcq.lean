/- What the exact laws of chapter 31 share: the argument, the model's answer, the copy, the program's answer, each in its variable. -/
import Derived.Test.YthdhjjbgegcncaaRcVal
import Derived.Test.YthdhjjbgegcncaaEqRc
import Derived.Test.YthdhjjbgegcncaaMkRc
import Derived.Test.YthdhjjbgegcncaaToRc
import Derived.Test.YthdhjjbgegcncaaTpRc
import Derived.Test.YthdhjjbgegcncaaRowRc
import Derived.Test.YthdhjjbgegcncaaQvY
import Derived.Deep.RegionHeld3
import Derived.Deep.Cut
namespace Go.Proofs.Ythdhjjbgegcncaa
open Go.RowKit
set_option linter.unusedVariables false
set_option linter.unusedSimpArgs false

/-- Four cells. -/
structure C4 (w : World) (b : Nat) (u v y z : Value) : Prop where
  c0 : w.cell? ⟨b, 0, none⟩ = some u
  c1 : w.cell? ⟨b, 1, none⟩ = some v
  c2 : w.cell? ⟨b, 2, none⟩ = some y
  c3 : w.cell? ⟨b, 3, none⟩ = some z
theorem C4.new (w : World) (u v y z : Value) (T : TypeId) : C4 (w.alloc (.cells #[u, v, y, z] T)) w.heap.size u v y z := by
  refine ⟨?_, ?_, ?_, ?_⟩ <;> (rw [World.cell?_alloc_mark]; rfl)
theorem C4.lt {w : World} {b : Nat} {u v y z : Value} (h : C4 w b u v y z) : b < w.heap.size := World.block_lt_of_cell? w _ h.c0
theorem C4.below {w w' : World} {b : Nat} {u v y z : Value} (h : C4 w b u v y z) (hb : Below w.heap.size w w') : C4 w' b u v y z :=
  ⟨(hb.cell (p := ⟨b, 0, none⟩) h.lt).trans h.c0, (hb.cell (p := ⟨b, 1, none⟩) h.lt).trans h.c1, (hb.cell (p := ⟨b, 2, none⟩) h.lt).trans h.c2, (hb.cell (p := ⟨b, 3, none⟩) h.lt).trans h.c3⟩
theorem C4.kept {w W : World} {b : Nat} {u v y z : Value} {row : Option Nat} (h : C4 w b u v y z) (hg : w.grownBy W row) (hr : some b ≠ row) : C4 W b u v y z := ⟨hg.cell h.c0 hr, hg.cell h.c1 hr, hg.cell h.c2 hr, hg.cell h.c3 hr⟩
theorem C4.all {w : World} {b : Nat} {u v y z : Value} (h : C4 w b u v y z) : w.cell? ⟨b, 0, none⟩ = some u ∧ w.cell? ⟨b, 1, none⟩ = some v ∧ w.cell? ⟨b, 2, none⟩ = some y ∧ w.cell? ⟨b, 3, none⟩ = some z := ⟨h.c0, h.c1, h.c2, h.c3⟩
theorem OwnPc.zero {w : World} {B : Nat} {v : Value} {l : List Pc} (h : OwnPc w B v l) : OwnPc w 0 v l := OwnPc.lower h (Nat.zero_le _)
theorem OwnPc.shape {w : World} {B : Nat} {v : Value} {l : List Pc} (h : OwnPc w B v l) : ∃ a c, v = .slice a l.length c := ownsRow_shape h
structure XS (w W : World) (rd fi li rd' fi' li' : Int) (v v2 v3 v4 : Value) (p2 p3 p4 : Nat) (m M3 M4 : List Pc) : Prop where
  bel : Below w.heap.size w W
  ar : C4 W w.heap.size (.int .i64 rd) v (.int .i64 fi) (.int .i64 li)
  x2 : C4 W p2 (.int .i64 rd') v2 (.int .i64 fi') (.int .i64 li')
  x3 : C4 W p3 (.int .i64 rd) v3 (.int .i64 fi) (.int .i64 li)
  x4 : C4 W p4 (.int .i64 rd') v4 (.int .i64 fi') (.int .i64 li')
  o2 : OwnPc W 0 v2 m
  o3 : OwnPc W 0 v3 M3
  o4 : OwnPc W 0 v4 M4
  q2 : ∀ b, v2.ownBlock = some b → w.heap.size < b ∧ b < p2
  q3 : ∀ b, v3.ownBlock = some b → p2 < b ∧ b < p3
  q4 : ∀ b, v4.ownBlock = some b → p3 < b ∧ b < p4
  ord : w.heap.size < p2 ∧ p2 < p3 ∧ p3 < p4
section
variable {w W W' : World} {rd fi li rd' fi' li' : Int} {v v2 v3 v4 : Value} {p2 p3 p4 : Nat} {m M3 M4 M : List Pc}
theorem XS.below (h : XS w W rd fi li rd' fi' li' v v2 v3 v4 p2 p3 p4 m M3 M4) (hb : Below W.heap.size W W') : XS w W' rd fi li rd' fi' li' v v2 v3 v4 p2 p3 p4 m M3 M4 :=
  ⟨h.bel.trans (hb.mono h.bel.size), h.ar.below hb, h.x2.below hb, h.x3.below hb, h.x4.below hb, h.o2.below hb, h.o3.below hb, h.o4.below hb, h.q2, h.q3, h.q4, h.ord⟩
theorem XS.drew (h : XS w W rd fi li rd' fi' li' v v2 v3 v4 p2 p3 p4 m M3 M4) : XS w W.drew rd fi li rd' fi' li' v v2 v3 v4 p2 p3 p4 m M3 M4 := h.below (Below.refl _ _).drew
/-- The copy is marked. -/
theorem XS.mark3 (h : XS w W rd fi li rd' fi' li' v v2 v3 v4 p2 p3 p4 m M3 M4) (hg : W.grownBy W' v3.ownBlock) (ho : OwnPc W' 0 v3 M) : XS w W' rd fi li rd' fi' li' v v2 v3 v4 p2 p3 p4 m M M4 := by
  obtain ⟨r1, r2, r3⟩ := h.ord
  have far : ∀ b, (b ≤ p2 ∨ p3 ≤ b) → some b ≠ v3.ownBlock := fun b hb e => by have := h.q3 b e.symm; omega
  have ne : ∀ u : Value, (∀ b, u.ownBlock = some b → b ≤ p2 ∨ p3 ≤ b) → u.ownBlock = none ∨ u.ownBlock ≠ v3.ownBlock := fun u hu => by
    cases hq : u.ownBlock with
    | none => exact .inl rfl
    | some g => exact .inr (far g (hu g hq))
  exact ⟨h.bel.grown hg h.bel.size (fun j hj => by have := h.q3 j hj; omega), h.ar.kept hg (far _ (by omega)), h.x2.kept hg (far _ (by omega)), h.x3.kept hg (far _ (by omega)), h.x4.kept hg (far _ (by omega)),
    World.ownsRow.kept h.o2 hg (ne _ (fun g k => by have := h.q2 g k; omega)), ho, World.ownsRow.kept h.o4 hg (ne _ (fun g k => by have := h.q4 g k; omega)), h.q2, h.q3, h.q4, h.ord⟩
/-- The answer is marked. -/
theorem XS.mark4 (h : XS w W rd fi li rd' fi' li' v v2 v3 v4 p2 p3 p4 m M3 M4) (hg : W.grownBy W' v4.ownBlock) (ho : OwnPc W' 0 v4 M) : XS w W' rd fi li rd' fi' li' v v2 v3 v4 p2 p3 p4 m M3 M := by
  obtain ⟨r1, r2, r3⟩ := h.ord
  have far : ∀ b, (b ≤ p3 ∨ p4 ≤ b) → some b ≠ v4.ownBlock := fun b hb e => by have := h.q4 b e.symm; omega
  have ne : ∀ u : Value, (∀ b, u.ownBlock = some b → b ≤ p3 ∨ p4 ≤ b) → u.ownBlock = none ∨ u.ownBlock ≠ v4.ownBlock := fun u hu => by
    cases hq : u.ownBlock with
    | none => exact .inl rfl
    | some g => exact .inr (far g (hu g hq))
  exact ⟨h.bel.grown hg h.bel.size (fun j hj => by have := h.q4 j hj; omega), h.ar.kept hg (far _ (by omega)), h.x2.kept hg (far _ (by omega)), h.x3.kept hg (far _ (by omega)), h.x4.kept hg (far _ (by omega)),
    World.ownsRow.kept h.o2 hg (ne _ (fun g k => by have := h.q2 g k; omega)), World.ownsRow.kept h.o3 hg (ne _ (fun g k => by have := h.q3 g k; omega)), ho, h.q2, h.q3, h.q4, h.ord⟩
end
theorem PutV.len2 {rd : Int} {l : List Qc} {fi li off : Int} {d : ByteArray} {fin : Bool} {rd' : Int} {l' : List Qc} {fi' li' c : Int} (h : PutV rd l fi li off d fin rd' l' fi' li' c) (hl : l.length ≤ 1048576) : l'.length ≤ 1048576 := by
  by_cases hv : rvok rd l fi li ∧ (0 ≤ off ∧ off ≤ 30) ∧ d.size ≤ 12
  · have k := h
    unfold PutV at k
    rw [if_pos hv] at k
    by_cases h0 : c = 0
    · have := rvok_len (put_ok hv.1 (k.2.2.1 ▸ h0) (k.2.2.2.1 h0))
      omega
    · rw [(k.2.2.2.2 h0).1]; exact hl
  · unfold PutV at h
    rw [if_neg hv] at h
    rw [h.2.1]; simp
theorem ReadV.len2 {rd : Int} {l : List Qc} {fi li n : Int} {rd' : Int} {l' : List Qc} {fi' li' : Int} {s : ByteArray} (h : ReadV rd l fi li n rd' l' fi' li' s) : l'.length ≤ 1048576 := by
  unfold ReadV at h
  by_cases hv : rvok rd l fi li ∧ (0 ≤ n ∧ n ≤ 30)
  · rw [if_pos hv] at h
    have := rvok_len (red_ok hv.1 (Nat.min_le_right _ _) h.2.2.2)
    omega
  · rw [if_neg hv] at h
    rw [h.2.1]; simp
theorem GrantV.len2 {rd : Int} {l : List Qc} {fi li n : Int} {rd' : Int} {l' : List Qc} {fi' li' : Int} {q : Bool} (h : GrantV rd l fi li n rd' l' fi' li' q) (hl : l.length ≤ 1048576) : l'.length ≤ 1048576 := by
  unfold GrantV at h
  by_cases hv : rvok rd l fi li ∧ (0 ≤ n ∧ n ≤ 30)
  · rw [if_pos hv] at h; rw [h.2.1]; exact hl
  · rw [if_neg hv] at h; rw [h.2.1]; simp
theorem szd_of {l : List Qc} (hp : ∀ p ∈ l, PIn p) (h1 : l.length ≤ 1048576) (h2 : ∀ p ∈ l, p.2.size ≤ 1048576) : Szd l := ⟨by omega, fun p hq => ⟨(hp p hq).1.2, by have := h2 p hq; omega⟩⟩
theorem pin_sz {l : List Qc} (hp : ∀ p ∈ l, PIn p) : ∀ p ∈ l, p.2.size ≤ 9223372036854775807 := fun p hq => by have := (hp p hq).2; unfold maxLen at this; omega
theorem sv_own {rd fi li : Int} {l : List Qc} {b c B : Nat} {W : World} (ho : OwnPc W B (.slice (some ⟨b, 0, none⟩) l.length c) l) (hs : Szd l) :
    Calls Try.prog 16 #[.agg #[.int .i64 rd, .slice (some ⟨b, 0, none⟩) l.length c, .int .i64 fi, .int .i64 li]] W fun e w' => e = .returned (.bool (decide (rvok rd l fi li))) ∧ Below W.heap.size W w' := srvval_any _ l rd fi li W (Pcs.of_own ho (by intro e; cases e)) hs.1 (fun p hp => (hs.2 p hp).2)
theorem sr_own {rd fi li : Int} {l : List Qc} {b c B : Nat} {W : World} (ho : OwnPc W B (.slice (some ⟨b, 0, none⟩) l.length c) l) (hs : Szd l) :
    Calls Try.prog 21 #[.agg #[.int .i64 rd, .slice (some ⟨b, 0, none⟩) l.length c, .int .i64 fi, .int .i64 li]] W fun e w' => e = .returned (.int .i64 (rdyv rd l fi li)) ∧ Below W.heap.size W w' := srecvready_any _ l rd fi li W (Pcs.of_own ho (by intro e; cases e)) hs.1 (fun p hp => (hs.2 p hp).2)
theorem se_own {rd fi li : Int} {l : List Qc} {b c B : Nat} {W : World} (ho : OwnPc W B (.slice (some ⟨b, 0, none⟩) l.length c) l) (hs : Szd l) :
    Calls Try.prog 25 #[.agg #[.int .i64 rd, .slice (some ⟨b, 0, none⟩) l.length c, .int .i64 fi, .int .i64 li]] W fun e w' => e = .returned (.bool (decide (rvok rd l fi li ∧ rd = fi))) ∧ Below W.heap.size W w' := srecvended_any _ l rd fi li W (Pcs.of_own ho (by intro e; cases e)) hs.1 (fun p hp => (hs.2 p hp).2)
theorem iv_own {rd fi li : Int} {l : List Qc} {v : Value} {B : Nat} {W : World} (ho : OwnPc W B v l) (hs : Szd l) :
    Calls Try.prog 18 #[.agg #[.int .i64 rd, v, .int .i64 fi, .int .i64 li]] W fun e w' => e = .returned (.bool (decide (rvok rd l fi li))) ∧ Below W.heap.size W w' := irvval_any v l rd fi li W ho.n hs.1 hs.2
theorem ir_own {rd fi li : Int} {l : List Qc} {v : Value} {B : Nat} {W : World} (ho : OwnPc W B v l) (hs : Szd l) :
    Calls Try.prog 22 #[.agg #[.int .i64 rd, v, .int .i64 fi, .int .i64 li]] W fun e w' => e = .returned (.int .i64 (rdyv rd l fi li)) ∧ Below W.heap.size W w' := irecvready_any v l rd fi li W ho.n hs.1 hs.2
theorem ie_own {rd fi li : Int} {l : List Qc} {v : Value} {B : Nat} {W : World} (ho : OwnPc W B v l) (hs : Szd l) :
    Calls Try.prog 26 #[.agg #[.int .i64 rd, v, .int .i64 fi, .int .i64 li]] W fun e w' => e = .returned (.bool (decide (rvok rd l fi li ∧ rd = fi))) ∧ Below W.heap.size W w' := irecvended_any v l rd fi li W ho.n hs.1 hs.2

end Go.Proofs.Ythdhjjbgegcncaa
