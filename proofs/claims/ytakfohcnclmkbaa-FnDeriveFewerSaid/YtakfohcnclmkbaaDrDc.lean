/- DrawDerive, with what the slice of boxes has room for. -/
import Derived.Test.YtakfohcnclmkbaaDrDe
namespace Go.Proofs.Ytakfohcnclmkbaa
open Go.RowKit
set_option linter.unusedVariables false
set_option linter.unusedSimpArgs false

def GotDeC (w : World) (e : Ending) (w' : World) : Prop := ∃ (v u : Value) (l : List Bx) (k : List Int), e = .returned (.tuple #[v, u]) ∧ Below w.heap.size w w' ∧ Bxs w' v l ∧ Ints w' u k ∧ DL l k ∧ u.ownBlock ≠ none ∧ ∀ a n c, v = .slice a n c → n ≤ c ∧ c ≤ maxLen

set_option maxRecDepth 100000 in
set_option maxHeartbeats 800000 in
theorem drawDeC_any (a : Option Addr) (len cap : Nat) (zs : List Int) (w : World) (h : IsRow .u8 w a len cap zs) :
    Calls Try.prog 15 #[.slice a len cap] w (GotDeC w) := by
  have H := Lib.hid h
  clear h
  go_enter Try.func15, Try.ntmps15
  go_wp2_with fail
  refine (open_any a len cap zs _ H.out).mono ?_
  rintro e w1 ⟨rfl, hb, hR⟩
  have HB1 := Lib.hid hb
  have HR1 := Lib.hid hR
  clear hb hR
  go_wp2_with fail
  refine (boxes_any _ 0 _ HR1.out (by omega)).mono ?_
  rintro e w2 ⟨v, l, hl1, hl2, rfl, hg, hR, ho⟩
  have HB2 := Lib.hid (below_reader HB1.out hg)
  have HR2 := Lib.hid hR
  have HO2 := Lib.hid (ho.base (B' := w.heap.size + 1) (by have := HR1.out.1; omega))
  have HL := Lib.hid (And.intro hl1 hl2)
  clear hg hR ho hl1 hl2
  go_wp2_with fail
  refine (known_any _ _ _ HR2.out (by omega)).mono ?_
  rintro e w3 ⟨u, k, hk1, hk2, rfl, hg, hR, ho, hnn⟩
  have HB3 := Lib.hid (below_reader HB2.out hg)
  have HO3 := Lib.hid (HO2.out.picked hg (Nat.lt_succ_self _))
  have HK := Lib.hid ho.ints
  have HL2 := Lib.hid (And.intro hk1 hk2)
  have HNN := Lib.hid hnn
  have HC3 : Hid (∀ a n c, v = .slice a n c → n ≤ c ∧ c ≤ maxLen) := Lib.hid (by
    intro a n c he
    obtain ⟨_, ⟨h1, h2⟩ | ⟨g, cc, cur, h1, _, _, h4, h5, _⟩⟩ := HO3.out.1
    · rw [h1] at he; injection he with _ e2 e3; subst e2 e3; exact ⟨Nat.le_refl _, Nat.zero_le _⟩
    · rw [h1] at he; injection he with _ e2 e3; subst e2 e3; exact ⟨h4, h5⟩)
  clear hg hR ho hk1 hk2 hnn
  go_wp2_with fail
  go_ret2
  exact ⟨v, u, l.map Prod.fst, k, rfl, HB3.out, HO3.out.bxs, HK.out, DL.of HL.out.1 HL.out.2 HL2.out.1 HL2.out.2, HNN.out, HC3.out⟩

end Go.Proofs.Ytakfohcnclmkbaa
