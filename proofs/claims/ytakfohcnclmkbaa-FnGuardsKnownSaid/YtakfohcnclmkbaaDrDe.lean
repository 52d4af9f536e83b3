/- The drawn arguments of chapter 11: DrawDerive, DrawDerivable, DrawOpened, DrawGuards. -/
import Derived.Test.YtakfohcnclmkbaaDrBx
import Derived.Test.YtakfohcnclmkbaaSGd
namespace Go.Proofs.Ytakfohcnclmkbaa
open Go.RowKit
set_option linter.unusedVariables false
set_option linter.unusedSimpArgs false

theorem IsRow.below {k : IntKind} {w w' : World} {a : Option Addr} {len cap : Nat} {zs : List Int} (h : IsRow k w a len cap zs) (hb : Below w.heap.size w w') : IsRow k w' a len cap zs := 
  h.keep fun x _ _ i v hv => (hb.cell (World.block_lt_of_cell? w _ hv)).trans hv
theorem below_reader {w w1 w2 : World} (hb : Below w.heap.size w w1) (hg : w1.grownBy w2 (some w.heap.size)) : Below w.heap.size w w2 :=
  hb.grown hg hb.size (fun j hj => by injection hj with hj; omega)
theorem OwnBs.base {w : World} {B B' : Nat} {v : Value} {l : List BxR} (h : OwnBs w B v l) (hB : B' ≤ B) : OwnBs w B' v l := by
  refine ⟨?_, fun r hr => ⟨(h.2 r hr).1.base hB, (h.2 r hr).2⟩⟩
  obtain ⟨h0, h | ⟨g, c, cur, h1, h2, h3⟩⟩ := h.1
  · exact ⟨h0, .inl h⟩
  · exact ⟨h0, .inr ⟨g, c, cur, h1, by omega, h3⟩⟩

/-- Drawn boxes and known atoms. -/
structure DL (l : List Bx) (k : List Int) : Prop where
  len : l.length ≤ 9
  box : ∀ b ∈ l, BxL b
  klen : k.length ≤ 3
  kin : ∀ x ∈ k, abnd x
theorem DL.of {l : List BxR} {k : List Int} (h1 : l.length ≤ 9) (h2 : ∀ r ∈ l, BxL r.1) (h3 : k.length ≤ 3) (h4 : ∀ x ∈ k, abnd x) : DL (l.map Prod.fst) k :=
  ⟨by simpa using h1, fun b hb => by obtain ⟨r, hr, rfl⟩ := List.mem_map.1 hb; exact h2 r hr, h3, h4⟩
theorem abnd.ok {x : Int} (h : abnd x) : -9223372036854775808 ≤ x ∧ x < 9223372036854775808 := by unfold abnd at h; omega
theorem DL.lens {l : List Bx} {k : List Int} (h : DL l k) : l.length ≤ 900000 ∧ (∀ b ∈ l, b.2.length ≤ 1048576) ∧ k.length ≤ 1048576 :=
  ⟨by have := h.len; omega, fun b hb => by have := (h.box b hb).1; omega, by have := h.klen; omega⟩
/-- What the call has drawn, its reader in block b. -/
structure Drw (w : World) (b n : Nat) (v u : Value) (rows : List BxR) (k : List Int) : Prop where
  rdr : Rdr w b n
  own : OwnBs w (b + 1) v rows
  known : OwnI w (b + 1) u k
  dl : DL (rows.map Prod.fst) k
theorem Drw.below {w w' : World} {b n : Nat} {v u : Value} {rows : List BxR} {k : List Int} (h : Drw w b n v u rows k) (hb : Below w.heap.size w w') : Drw w' b n v u rows k :=
  ⟨h.rdr.below hb, h.own.below hb, h.known.below hb, h.dl⟩
theorem Drw.picked {w w' : World} {b n n' : Nat} {v u : Value} {rows : List BxR} {k : List Int} (h : Drw w b n v u rows k) (hg : w.grownBy w' (some b)) (hR : Rdr w' b n') : Drw w' b n' v u rows k :=
  ⟨hR, h.own.picked hg (Nat.lt_succ_self b), h.known.picked hg (Nat.lt_succ_self b), h.dl⟩
theorem Drw.bxs {w : World} {b n : Nat} {v u : Value} {rows : List BxR} {k : List Int} (h : Drw w b n v u rows k) : Bxs w v (rows.map Prod.fst) := h.own.bxs

def GotDe (w : World) (e : Ending) (w' : World) : Prop := ∃ (v u : Value) (l : List Bx) (k : List Int), e = .returned (.tuple #[v, u]) ∧ Below w.heap.size w w' ∧ Bxs w' v l ∧ Ints w' u k ∧ DL l k ∧ u.ownBlock ≠ none
def GotDa (w : World) (e : Ending) (w' : World) : Prop := ∃ (v u : Value) (l : List Bx) (k : List Int) (a : Int), e = .returned (.tuple #[v, u, .int .i64 a]) ∧ Below w.heap.size w w' ∧ Bxs w' v l ∧ Ints w' u k ∧ DL l k ∧ abnd a

set_option maxRecDepth 100000 in
set_option maxHeartbeats 800000 in
theorem drawDe_any (a : Option Addr) (len cap : Nat) (zs : List Int) (w : World) (h : IsRow .u8 w a len cap zs) :
    Calls Try.prog 15 #[.slice a len cap] w (GotDe w) := by
  have H := Lib.hid h
  clear h
  go_enter Try.func15, Try.ntmps15
  go_wp2_with fail
  refine (open_any a len cap zs _ H.out).mono ?_
  rintro e w1 ⟨rfl, hb, hR⟩
  have HB1 := Lib.hid hb
  have HR1 := Lib.hid hR
  clear hb hR
  go_wp2_with fail
  refine (boxes_any _ 0 _ HR1.out (by omega)).mono ?_
  rintro e w2 ⟨v, l, hl1, hl2, rfl, hg, hR, ho⟩
  have HB2 := Lib.hid (below_reader HB1.out hg)
  have HR2 := Lib.hid hR
  have HO2 := Lib.hid (ho.base (B' := w.heap.size + 1) (by have := HR1.out.1; omega))
  have HL := Lib.hid (And.intro hl1 hl2)
  clear hg hR ho hl1 hl2
  go_wp2_with fail
  refine (known_any _ _ _ HR2.out (by omega)).mono ?_
  rintro e w3 ⟨u, k, hk1, hk2, rfl, hg, hR, ho, hnn⟩
  have HB3 := Lib.hid (below_reader HB2.out hg)
  have HO3 := Lib.hid (HO2.out.picked hg (Nat.lt_succ_self _))
  have HK := Lib.hid ho.ints
  have HL2 := Lib.hid (And.intro hk1 hk2)
  have HNN := Lib.hid hnn
  clear hg hR ho hk1 hk2 hnn
  go_wp2_with fail
  go_ret2
  exact ⟨v, u, l.map Prod.fst, k, rfl, HB3.out, HO3.out.bxs, HK.out, DL.of HL.out.1 HL.out.2 HL2.out.1 HL2.out.2, HNN.out⟩

set_option maxRecDepth 100000 in
set_option maxHeartbeats 800000 in
theorem drawOp_any (a : Option Addr) (len cap : Nat) (zs : List Int) (w : World) (h : IsRow .u8 w a len cap zs) :
    Calls Try.prog 24 #[.slice a len cap] w (GotDe w) := by
  have H := Lib.hid h
  clear h
  go_enter Try.func24, Try.ntmps24
  go_wp2_with fail
  refine (drawDe_any a len cap zs _ H.out).mono ?_
  rintro e w1 ⟨v, u, l, k, rfl, hb, hv, hu, hd, hnn⟩
  have HB1 := Lib.hid hb
  have HV := Lib.hid hv
  have HU := Lib.hid hu
  have HD := Lib.hid hd
  have HNN := Lib.hid hnn
  clear hb hv hu hd hnn
  go_wp2_with fail
  first | go_ret2 | go_ret
  exact ⟨v, u, l, k, rfl, HB1.out, HV.out, HU.out, HD.out, HNN.out⟩

end Go.Proofs.Ytakfohcnclmkbaa
