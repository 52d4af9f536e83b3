/- Intervals of bytes in memory: slices of bytes, rows of intervals, append. -/
import Derived.Test.YthdhjjbgegcncaaOwn
import Derived.Test.YthdhjjbgegcncaaFrm
import Derived.Test.YthdhjjbgegcncaaQc
import Derived.Test.YthdhjjbgegcncaaIvMath2
import Derived.WalkSmall
import Derived.Deep.RegionLaw
import Derived.Maps.AppendAt
import Derived.Laws.OwnMore
import Derived.Lib.BufferWrite
import Derived.Lib.ConvBytes
import Derived.Lib.SlBytesRow
namespace Go.Proofs.Ythdhjjbgegcncaa
open Go.RowKit
set_option linter.unusedVariables false
set_option linter.unusedSimpArgs false

/-- A slice of bytes that reads as d. -/
def Byt (w : World) (v : Value) (d : ByteArray) : Prop :=
  ∃ g o c C m, v = .slice (some ⟨g, o, none⟩) d.size c ∧ d.size ≤ c ∧ w.heap[g]? = some (.cells C 5 m) ∧ ∀ i, i < d.size → w.cell? ⟨g, o + i, none⟩ = some (.int .u8 (dat d i))
theorem heap_lt {w : World} {g : Nat} {o : Obj} (h : w.heap[g]? = some o) : g < w.heap.size := (Array.getElem?_eq_some_iff.1 h).1
theorem Byt.below {w w' : World} {v : Value} {d : ByteArray} (h : Byt w v d) (hb : Below w.heap.size w w') : Byt w' v d := by
  obtain ⟨g, o, c, C, m, rfl, hc, hh, hd⟩ := h
  exact ⟨g, o, c, C, m, rfl, hc, (hb.block g (heap_lt hh)).trans hh, fun i hi => (hb.cell (p := ⟨g, o + i, none⟩) (heap_lt hh)).trans (hd i hi)⟩
theorem Byt.grown {w w' : World} {v : Value} {d : ByteArray} {row : Option Nat} (h : Byt w v d) (hg : w.grownBy w' row) (hr : ∀ k, row = some k → ∃ C T m, w.heap[k]? = some (.cells C T m) ∧ T ≠ 5) : Byt w' v d := by
  obtain ⟨g, o, c, C, m, rfl, hc, hh, hd⟩ := h
  have hne : some g ≠ row := fun e => by
    obtain ⟨C', T', m', h1, h2⟩ := hr g e.symm
    rw [h1] at hh
    injection hh with hh
    injection hh with e1 e2 e3
    exact h2 e2
  exact ⟨g, o, c, C, m, rfl, hc, (hg.block g (heap_lt hh) hne).trans hh, fun i hi => hg.cell (hd i hi) hne⟩
theorem Byt.one {w : World} {v : Value} {d : ByteArray} (h : Byt w v d) : v.oneCell' = true := by
  obtain ⟨g, o, c, C, m, rfl, _⟩ := h
  rfl
theorem Byt.cut {w : World} {g o c c' : Nat} {k : Nat} {d : ByteArray} {A : Option Addr} (h : Byt w (.slice (some ⟨g, o, none⟩) d.size c) d) (hk : k ≤ d.size) (hA : (A = some ⟨g, o + k, none⟩) ∨ (k = d.size ∧ ∃ o', A = some ⟨g, o', none⟩)) (hc : d.size - k ≤ c') :
    Byt w (.slice A (d.size - k) c') (d.extract k d.size) := by
  obtain ⟨g1, o1, c1, C, m, e, hc1, hh, hd⟩ := h
  injection e with e1 e2 e3
  injection e1 with e1
  injection e1 with e1 e4
  subst e1 e4
  have hs : (d.extract k d.size).size = d.size - k := by rw [ByteArray.size_extract]; omega
  rcases hA with rfl | ⟨rfl, o', rfl⟩
  · exact ⟨g, o + k, c', C, m, by rw [hs], by rw [hs]; exact hc, hh, fun i hi => by
      rw [hs] at hi
      rw [Nat.add_assoc, dat_ext' (Nat.le_refl _) (by omega)]
      exact hd _ (by omega)⟩
  · exact ⟨g, o', c', C, m, by rw [hs], by rw [hs]; exact hc, hh, fun i hi => by rw [hs] at hi; omega⟩

/-- An interval in memory: its start and its bytes. -/
abbrev Iv := Int × Value
def icells (L : List Iv) : List Value := L.flatMap fun p => [.int .i64 p.1, p.2]
theorem icells_len (L : List Iv) : (icells L).length = L.length * 2 := by
  induction L with
  | nil => rfl
  | cons r t ih => simp [icells] at ih ⊢; omega
theorem icells_app (L M : List Iv) : icells (L ++ M) = icells L ++ icells M := by simp [icells]
theorem icells_at : ∀ (L : List Iv) (i : Nat) (h : i < L.length), (icells L)[i * 2]? = some (.int .i64 L[i].1) ∧ (icells L)[i * 2 + 1]? = some L[i].2
  | [], i, h => by simp at h
  | r :: t, 0, _ => by simp [icells]
  | r :: t, i + 1, h => by
    have ih := icells_at t i (by simpa using h)
    have e : icells (r :: t) = .int .i64 r.1 :: r.2 :: icells t := by simp [icells]
    rw [e, show (i + 1) * 2 = i * 2 + 1 + 1 from by omega, show i * 2 + 1 + 1 + 1 = (i * 2 + 1) + 1 + 1 from by omega]
    simpa using ih
theorem try_infoIv : (Try.prog.info? 55).map (fun i => (i.zero, i.size, i.bytes)) = some (some (.agg #[.int .i64 0, .slice none 0 0]), 2, 32) := by kernel_rfl
theorem try_infoU8 : (Try.prog.info? 5).map (fun i => (i.zero, i.size, i.bytes)) = some (some (.int .u8 0), 1, 1) := by kernel_rfl
/-- The intervals L read as l. -/
def Bys (w : World) (L : List Iv) (l : List Qc) : Prop := L.length = l.length ∧ ∀ i (h : i < L.length) (h' : i < l.length), L[i].1 = l[i].1 ∧ Byt w L[i].2 l[i].2
theorem Bys.below {w w' : World} {L : List Iv} {l : List Qc} (h : Bys w L l) (hb : Below w.heap.size w w') : Bys w' L l := ⟨h.1, fun i h1 h2 => ⟨(h.2 i h1 h2).1, (h.2 i h1 h2).2.below hb⟩⟩
theorem Bys.grown {w w' : World} {L : List Iv} {l : List Qc} {row : Option Nat} (h : Bys w L l) (hg : w.grownBy w' row) (hr : ∀ k, row = some k → ∃ C T m, w.heap[k]? = some (.cells C T m) ∧ T ≠ 5) : Bys w' L l := ⟨h.1, fun i h1 h2 => ⟨(h.2 i h1 h2).1, (h.2 i h1 h2).2.grown hg hr⟩⟩
theorem Bys.app {w : World} {L M : List Iv} {l m : List Qc} (h : Bys w L l) (k : Bys w M m) : Bys w (L ++ M) (l ++ m) := by
  refine ⟨by rw [List.length_append, List.length_append, h.1, k.1], fun i h1 h2 => ?_⟩
  have hl := h.1
  by_cases hi : i < L.length
  · rw [List.getElem_append_left hi, List.getElem_append_left (by omega)]
    exact h.2 i hi (by omega)
  · rw [List.getElem_append_right (by omega), List.getElem_append_right (by omega)]
    rw [List.length_append] at h1 h2
    have := k.2 (i - L.length) (by omega) (by omega)
    simpa only [hl] using this
theorem Bys.one {w : World} {L : List Iv} {l : List Qc} (h : Bys w L l) : ∀ u ∈ icells L, u.oneCell' = true := by
  intro u hu
  obtain ⟨p, hp, hu⟩ := List.mem_flatMap.1 hu
  obtain ⟨i, hi, rfl⟩ := List.mem_iff_getElem.1 hp
  simp at hu
  rcases hu with rfl | rfl
  · rfl
  · exact (h.2 i hi (by have := h.1; omega)).2.one
theorem Bys.single {w : World} {x : Int} {v : Value} {d : ByteArray} (h : Byt w v d) : Bys w [(x, v)] [(x, d)] := ⟨rfl, fun i h1 h2 => by
  have : i = 0 := by simp at h1; omega
  subst this
  exact ⟨rfl, h⟩⟩

def OwnIv (w : World) (B : Nat) (v : Value) (L : List Iv) : Prop := w.ownsRow B 55 2 v L.length (icells L)
/-- A list of intervals of the call's own that reads as l. -/
def Ivl (w : World) (B : Nat) (v : Value) (l : List Qc) : Prop := ∃ L, OwnIv w B v L ∧ Bys w L l ∧ v ≠ .slice none 0 0
theorem OwnIv.row {w : World} {B : Nat} {v : Value} {L : List Iv} (h : OwnIv w B v L) : ∀ k, v.ownBlock = some k → ∃ C T m, w.heap[k]? = some (.cells C T m) ∧ T ≠ 5 := by
  intro k hk
  obtain ⟨_, ⟨rfl, _⟩ | ⟨g, c, cur, rfl, _, hh, _⟩⟩ := h
  · cases hk
  · injection hk with hk
    simp only at hk
    subst hk
    exact ⟨cur, _, _, hh, by decide⟩
theorem Ivl.new {w : World} {B : Nat} (h : B ≤ w.heap.size) : Ivl (w.alloc (.cells #[] 55)) B (.slice (some ⟨w.heap.size, 0, none⟩) 0 0) [] :=
  ⟨[], own_new _ 2 B w h, ⟨rfl, fun i h1 => by simp at h1⟩, by simp⟩
theorem Ivl.below {w w' : World} {B : Nat} {v : Value} {l : List Qc} (h : Ivl w B v l) (hb : Below w.heap.size w w') : Ivl w' B v l := by
  obtain ⟨L, h1, h2, h3⟩ := h
  exact ⟨L, own_below h1 hb, h2.below hb, h3⟩
theorem Ivl.lower {w : World} {B B' : Nat} {v : Value} {l : List Qc} (h : Ivl w B v l) (hB : B' ≤ B) : Ivl w B' v l := by
  obtain ⟨L, ⟨h0, k | ⟨g, c, cur, h1, h2, h3⟩⟩, k2, k3⟩ := h
  · exact ⟨L, ⟨h0, .inl k⟩, k2, k3⟩
  · exact ⟨L, ⟨h0, .inr ⟨g, c, cur, h1, by omega, h3⟩⟩, k2, k3⟩
/-- Another row grows. -/
theorem Ivl.kept {w w' : World} {B : Nat} {v : Value} {l : List Qc} {row : Option Nat} (h : Ivl w B v l) (hg : w.grownBy w' row) (hr : ∀ k, row = some k → v.ownBlock ≠ some k ∧ ∃ C T m, w.heap[k]? = some (.cells C T m) ∧ T ≠ 5) : Ivl w' B v l := by
  obtain ⟨L, h1, h2, h3⟩ := h
  refine ⟨L, World.ownsRow.kept h1 hg ?_, h2.grown hg fun k hk => (hr k hk).2, h3⟩
  cases hq : v.ownBlock with
  | none => exact .inl rfl
  | some g =>
    refine .inr fun e => ?_
    exact (hr g e.symm).1 hq
/-- A cell of another block is stored. -/
theorem Ivl.far {w : World} {B b i : Nat} {v u : Value} {l : List Qc} (h : Ivl w B v l) (hb : v.ownBlock ≠ some b) (hT : ∃ C T m, w.heap[b]? = some (.cells C T m) ∧ T ≠ 5) : Ivl (w.setCell ⟨b, i, none⟩ u) B v l :=
  h.kept (Lib.grownBy_setCell w b i u) fun k hk => by injection hk with hk; subst hk; exact ⟨hb, hT⟩
theorem OwnIv.cells {w : World} {B g n c : Nat} {L : List Iv} (h : OwnIv w B (.slice (some ⟨g, 0, none⟩) n c) L) : ∀ q x, (icells L)[q]? = some x → w.cell? ⟨g, q, none⟩ = some x := fun q x hx => by
  have hn : n = L.length := by
    obtain ⟨_, ⟨e, _⟩ | ⟨_, _, _, e, _⟩⟩ := h
    · cases e
    · injection e
  subst hn
  have hq := (List.getElem?_eq_some_iff.1 hx).1
  rw [icells_len] at hq
  have k : w.ownsRow B 55 2 (.slice (some ⟨g, 0, none⟩) L.length c) L.length (icells L) := h
  rw [k.cellAt q (by omega)]
  exact hx
/-- What a walk sees of the list. -/
theorem Ivl.sl {w : World} {B : Nat} {v : Value} {l : List Qc} (h : Ivl w B v l) : ∃ g c, v = .slice (some ⟨g, 0, none⟩) l.length c ∧ l.length ≤ c ∧ B ≤ g ∧ g < w.heap.size := by
  obtain ⟨L, h1, h2, h3⟩ := h
  obtain ⟨_, ⟨rfl, _⟩ | ⟨g, c, cur, rfl, hB, hh, hc, _⟩⟩ := h1
  · exact absurd rfl h3
  · exact ⟨g, c, by rw [h2.1], by rw [← h2.1]; exact hc, hB, heap_lt hh⟩
theorem Ivl.at {w : World} {B g c n : Nat} {l : List Qc} (h : Ivl w B (.slice (some ⟨g, 0, none⟩) n c) l) (i : Nat) (hi : i < l.length) :
    ∃ u, w.cell? ⟨g, i * 2, none⟩ = some (.int .i64 l[i].1) ∧ w.cell? ⟨g, i * 2 + 1, none⟩ = some u ∧ Byt w u l[i].2 := by
  obtain ⟨L, h1, h2, h3⟩ := h
  have hL : i < L.length := by rw [h2.1]; exact hi
  obtain ⟨r1, r2⟩ := icells_at L i hL
  have c1 := h1.cells _ _ r1
  have c2 := h1.cells _ _ r2
  obtain ⟨k1, k2⟩ := h2.2 i hL hi
  exact ⟨L[i].2, by rw [c1, k1], c2, k2⟩
/-- What an append of intervals asks. -/
def SrcIv (w : World) (v : Value) (l : List Qc) : Prop := ∃ M g o c, v = .slice (some ⟨g, o, none⟩) l.length c ∧ Bys w M l ∧ ∀ q x, (icells M)[q]? = some x → w.cell? ⟨g, o + q, none⟩ = some x
theorem Ivl.src {w : World} {B : Nat} {v : Value} {l : List Qc} (h : Ivl w B v l) : SrcIv w v l := by
  obtain ⟨g, c, rfl, _⟩ := h.sl
  obtain ⟨L, h1, h2, h3⟩ := h
  refine ⟨L, g, 0, c, rfl, h2, fun q x hx => ?_⟩
  rw [Nat.zero_add]
  exact h1.cells q x hx
theorem SrcIv.new {w : World} {x : Int} {v : Value} {d : ByteArray} (h : Byt w v d) (T : TypeId) : SrcIv (w.alloc (.cells #[.int .i64 x, v] T)) (.slice (some ⟨w.heap.size, 0, none⟩) 1 1) [(x, d)] :=
  ⟨[(x, v)], w.heap.size, 0, 1, rfl, Bys.single (h.below ((Below.refl _ _).alloc (Nat.le_refl _) _)), fun q u hu => by
    rw [Nat.zero_add, World.cell?_alloc_mark]
    simpa [icells] using hu⟩
theorem append_iv (w : World) (ty : TypeId) (B : Nat) (v : Value) (l m : List Qc) (hown : Ivl w B v l) (u : Value) (hm : SrcIv w u m) (hlen : l.length + m.length ≤ 2097152) (hB : B ≤ w.heap.size) :
    ∃ v' w', (Builtin.append_ #[58, 58] ty #[v, u]).run Try.prog w = .ok v' w' ∧ Ivl w' B v' (l ++ m) ∧ w.grownBy w' v.ownBlock ∧ (v'.ownBlock = v.ownBlock ∨ v'.ownBlock = some w.heap.size) := by
  obtain ⟨i0, hi, hz0, hz1, hz2⟩ := info_parts try_infoIv
  obtain ⟨M, g, o, c, rfl, hM, hc⟩ := hm
  obtain ⟨L, hL, hLl, hn⟩ := hown
  have key : ∀ j x, (icells M)[j]? = some x → w.cell? ((⟨g, o, none⟩ : Addr).add j) = some x := fun j x hx => by
    rw [Addr.add_lit]; exact hc j x hx
  have e1 := hM.1
  have e2 := hLl.1
  obtain ⟨v', w', hr, h2, h3, h4, h5⟩ := run_append_own_at (P := Try.prog) w B 58 ty 55 i0 (.agg #[.int .i64 0, .slice none 0 0]) 2 32 Try.underlying58 hi hz0 hz1 hz2 rfl (by decide) v L.length (icells L) hL ⟨g, o, none⟩ m.length c (icells M) (by rw [icells_len, e1]) key hM.one (by unfold maxLen; omega) (by omega) hB
  refine ⟨v', w', hr, ⟨L ++ M, ?_, (hLl.grown h3 hL.row).app (hM.grown h3 hL.row), fun e => hn (h4.1 e).1⟩, h3, h5⟩
  unfold OwnIv
  rw [List.length_append, icells_app, e1]
  exact h2
theorem wpList_app_iv (w : World) {ops : Array Oper} {rest : List Oper} {o : Oper} {a : Act} {Q : Exit → Act → World → Prop} (hgd : o.guard = none) (s x : Operand)
    (ho : o.op = .call { callee := .builtin .append, args := #[s, x], argTypes := #[58, 58] })
    (B : Nat) (v : Value) (l m : List Qc) (hs : a.eval s = v) (hown : Ivl w B v l) (u : Value) (hx : a.eval x = u) (hm : SrcIv w u m) (hlen : l.length + m.length ≤ 2097152) (hB : B ≤ w.heap.size)
    (h : ∀ v' w', Ivl w' B v' (l ++ m) → w.grownBy w' v.ownBlock → (v'.ownBlock = v.ownBlock ∨ v'.ownBlock = some w.heap.size) → wpList Try.prog ops Q rest (a.put o.dst v') w') :
    wpList Try.prog ops Q (o :: rest) a w := by
  obtain ⟨v', w', hr, h1, h2, h3⟩ := append_iv w o.type B v l m hown u hm hlen hB
  refine wpList_plain hgd fun K hK => ?_
  unfold Oper.wp execOp
  simp only [ho, resolve, invoke, builtin, Sem.run_bind, Sem.run_pure, Result.andThen_ok, List.map_toArray, List.map_cons, List.map_nil, hs, hx, hr]
  exact hK _ _ (h v' w' h1 h2 h3)

/-- The bytes of d as cells. -/
def bcells (d : ByteArray) : List Value := (List.range d.size).map fun i => Value.int .u8 (dat d i)
theorem bcells_len (d : ByteArray) : (bcells d).length = d.size := by simp [bcells]
theorem bcells_at (d : ByteArray) (i : Nat) : (bcells d)[i]? = if i < d.size then some (.int .u8 (dat d i)) else none := by
  unfold bcells
  rw [List.getElem?_map]
  by_cases h : i < d.size
  · rw [List.getElem?_range h, if_pos h]; rfl
  · rw [if_neg h, List.getElem?_eq_none (by simp; omega)]; rfl
theorem bcells_app (d e : ByteArray) : bcells (d ++ e) = bcells d ++ bcells e := by
  refine List.ext_getElem? fun i => ?_
  rw [List.getElem?_append, bcells_at, bcells_at, bcells_at, bcells_len, ByteArray.size_append, dat_app]
  by_cases h : i < d.size
  · rw [if_pos h, if_pos h, if_pos h, if_pos (by omega)]
  · rw [if_neg h, if_neg h]
    by_cases h2 : i < d.size + e.size
    · rw [if_pos h2, if_pos (by omega)]
    · rw [if_neg h2, if_neg (by omega)]
def OwnBy (w : World) (B : Nat) (v : Value) (d : ByteArray) : Prop := w.ownsRow B 5 1 v d.size (bcells d)
theorem OwnBy.byt {w : World} {B : Nat} {v : Value} {d : ByteArray} (h : OwnBy w B v d) (hn : v ≠ .slice none 0 0) : Byt w v d := by
  have h' := h
  obtain ⟨_, ⟨rfl, _⟩ | ⟨g, c, cur, rfl, hB, hh, hc, _⟩⟩ := h
  · exact absurd rfl hn
  · refine ⟨g, 0, c, cur, _, rfl, hc, hh, fun i hi => ?_⟩
    rw [Nat.zero_add, World.ownsRow.cellAt h' i (by omega), bcells_at, if_pos hi]
theorem append_by (w : World) (ty : TypeId) (B : Nat) (v : Value) (d e : ByteArray) (hown : OwnBy w B v d) (u : Value) (hm : Byt w u e) (hlen : d.size + e.size ≤ 2097152) (hB : B ≤ w.heap.size) :
    ∃ v' w', (Builtin.append_ #[53, 53] ty #[v, u]).run Try.prog w = .ok v' w' ∧ OwnBy w' B v' (d ++ e) ∧ w.grownBy w' v.ownBlock ∧ (v' = .slice none 0 0 → v = .slice none 0 0) := by
  obtain ⟨i0, hi, hz0, hz1, hz2⟩ := info_parts try_infoU8
  obtain ⟨g, o, c, C, m, rfl, hc, hh, hd⟩ := hm
  have key : ∀ j x, (bcells e)[j]? = some x → w.cell? ((⟨g, o, none⟩ : Addr).add j) = some x := fun j x hx => by
    rw [Addr.add_lit]
    rw [bcells_at] at hx
    split at hx
    · rename_i hj; rw [← hx]; exact hd j hj
    · cases hx
  obtain ⟨v', w', hr, h2, h3, h4, h5⟩ := run_append_own_at (P := Try.prog) w B 53 ty 5 i0 (.int .u8 0) 1 1 Try.underlying53 hi hz0 hz1 hz2 rfl (by decide) v d.size (bcells d) hown ⟨g, o, none⟩ e.size c (bcells e) (by rw [bcells_len]; omega) key (by intro x hx; simp only [bcells, List.mem_map] at hx; obtain ⟨_, _, rfl⟩ := hx; rfl) (by unfold maxLen; omega) (by omega) hB
  refine ⟨v', w', hr, ?_, h3, fun e => (h4.1 e).1⟩
  unfold OwnBy
  rw [ByteArray.size_append, bcells_app]
  exact h2
theorem wpList_app_by (w : World) {ops : Array Oper} {rest : List Oper} {o : Oper} {a : Act} {Q : Exit → Act → World → Prop} (hgd : o.guard = none) (s x : Operand)
    (ho : o.op = .call { callee := .builtin .append, args := #[s, x], argTypes := #[53, 53] })
    (B : Nat) (v : Value) (d e : ByteArray) (hs : a.eval s = v) (hown : OwnBy w B v d) (u : Value) (hx : a.eval x = u) (hm : Byt w u e) (hlen : d.size + e.size ≤ 2097152) (hB : B ≤ w.heap.size)
    (h : ∀ v' w', OwnBy w' B v' (d ++ e) → w.grownBy w' v.ownBlock → (v' = .slice none 0 0 → v = .slice none 0 0) → wpList Try.prog ops Q rest (a.put o.dst v') w') :
    wpList Try.prog ops Q (o :: rest) a w := by
  obtain ⟨v', w', hr, h1, h2, h3⟩ := append_by w o.type B v d e hown u hm hlen hB
  refine wpList_plain hgd fun K hK => ?_
  unfold Oper.wp execOp
  simp only [ho, resolve, invoke, builtin, Sem.run_bind, Sem.run_pure, Result.andThen_ok, List.map_toArray, List.map_cons, List.map_nil, hs, hx, hr]
  exact hK _ _ (h v' w' h1 h2 h3)
end Go.Proofs.Ythdhjjbgegcncaa
