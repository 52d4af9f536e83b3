/- The drawn arguments of chapter 23. -/
import Derived.Test.YtkncnebfmidcpaaDrW
namespace Go.Proofs.Ytkncnebfmidcpaa
open Go.RowKit
set_option linter.unusedVariables false
set_option linter.unusedSimpArgs false

def DrewI (w : World) (b k : Nat) (e : Ending) (w' : World) : Prop := ∃ x : Int, e = .returned (.int .i64 x) ∧ w.grownBy w' (some b) ∧ Rdr w' b (k + 2)
set_option maxRecDepth 100000 in
set_option maxHeartbeats 4000000 in
theorem drat_any (b k : Nat) (a : Option Addr) (n c : Nat) (w : World) (R : Rdr w b k) (hk : k ≤ 900000) (hn : n ≤ 8) :
    Calls Try.prog 30 #[.pointer (some ⟨b, 0, none⟩), .slice a n c] w (DrewI w b k) := by
  go_enter Try.func30, Try.ntmps30
  go_wp2_with fail
  refine (pick_rdr b _ _ _ R (by omega) (by omega) (by omega)).mono ?_
  rintro e w2 ⟨u, hu, rfl, hg, hR⟩
  have G1 := Lib.hid hg
  have R1 := Lib.hid hR
  clear hg hR R
  by_cases hz : u = 0
  · subst hz
    go_wp2_with fail
    refine (pick_rdr b _ _ _ R1.out (by omega) (by omega) (by omega)).mono ?_
    rintro e w3 ⟨v, hv, rfl, hg, hR⟩
    have E := Lib.hid (And.intro (G1.out.trans hg) (hR.le (show k + 1 + 1 ≤ k + 2 by omega)))
    clear hg hR G1 R1
    go_wp2_with fail
    go_ret
    exact ⟨_, rfl, E.out⟩
  · have hz' : ¬ ((u : Int) = 0) := by omega
    have hz2 : ((u : Int) == 0) = false := by rw [beq_eq_false_iff_ne]; exact hz'
    by_cases hn1 : (n : Int) < 1
    all_goals
      go_wp2_with fail
      refine (pick_rdr b _ _ _ R1.out (by omega) (by omega) (by omega)).mono ?_
      rintro e w3 ⟨v, hv, rfl, hg, hR⟩
      have E := Lib.hid (And.intro (G1.out.trans hg) (hR.le (show k + 1 + 1 ≤ k + 2 by omega)))
      clear hg hR G1 R1
      go_wp2_with fail
      go_ret
      exact ⟨_, rfl, E.out⟩

theorem Wds.picked {w w' : World} {b : Nat} {v : Value} {l : List Wd} (h : Wds w v l) (hg : w.grownBy w' (some b)) (hb : v.ownBlock ≠ some b) : Wds w' v l := by
  obtain ⟨a, c, rfl, hc, h⟩ := h
  refine ⟨a, c, rfl, hc, fun hx => ?_⟩
  obtain ⟨g, o, rfl, k⟩ := h hx
  have hne : some g ≠ some b := fun e => hb (by rw [← e]; rfl)
  exact ⟨g, o, rfl, fun i hi => ⟨hg.cell (k i hi).1 hne, hg.cell (k i hi).2.1 hne, hg.cell (k i hi).2.2.1 hne, hg.cell (k i hi).2.2.2 hne⟩⟩

/-- What the draws hand over. -/
def GotL (w : World) (v : Value) (l : List Wd) (w' : World) : Prop := Wds w' v l ∧ l.length ≤ 8 ∧ v.ownBlock ≠ none ∧ Below w.heap.size w w'
def GotWI (w : World) (e : Ending) (w' : World) : Prop := ∃ (v : Value) (l : List Wd) (i : Int), e = .returned (.tuple #[v, .int .i64 i]) ∧ GotL w v l w'
def GotWT (w : World) (e : Ending) (w' : World) : Prop := ∃ (v : Value) (l : List Wd), e = .returned v ∧ GotL w v l w'
set_option maxRecDepth 100000 in
set_option maxHeartbeats 4000000 in
theorem drinc_any (a : Option Addr) (len cap : Nat) (zs : List Int) (w : World) (h : IsRow .u8 w a len cap zs) : Calls Try.prog 14 #[.slice a len cap] w (GotWI w) := by
  have CO := Lib.hid (open_any a len cap zs w h)
  clear h
  go_enter Try.func14, Try.ntmps14
  go_wp2_with fail
  refine CO.out.mono ?_
  rintro e w1 ⟨rfl, hb, hR⟩
  have B1 := Lib.hid hb
  have R1 := Lib.hid hR
  clear hb hR
  go_wp2_with fail
  refine (drw_any _ _ _ R1.out (by omega)).mono ?_
  rintro e w2 ⟨s, l, rfl, hw, hl, hn, hq, hg, hR⟩
  have W2 := Lib.hid hw
  have N2 := Lib.hid hn
  have Q2 := Lib.hid (fun e => by have := hq _ e; have := R1.out.1; omega : s.ownBlock ≠ some w.heap.size)
  have G2 := Lib.hid hg
  have R2 := Lib.hid hR
  obtain ⟨ax, cx, rfl, _⟩ := hw
  clear hn hq hg hR
  go_wp2_with fail
  refine (drat_any _ _ ax l.length cx _ R2.out (by omega) hl).mono ?_
  rintro e w3 ⟨x, rfl, hg, hR⟩
  have E := Lib.hid (show GotL w (.slice ax l.length cx) l w3 from ⟨W2.out.picked hg Q2.out, hl, N2.out, B1.out.grown (G2.out.trans hg) B1.out.size (fun q hq => by have := Option.some.inj hq; omega)⟩)
  clear hg hR
  go_wp2_with fail
  go_ret2
  exact ⟨.slice ax l.length cx, l, x, rfl, E.out⟩
set_option maxRecDepth 100000 in
set_option maxHeartbeats 4000000 in
theorem drtot_any (a : Option Addr) (len cap : Nat) (zs : List Int) (w : World) (h : IsRow .u8 w a len cap zs) : Calls Try.prog 25 #[.slice a len cap] w (GotWT w) := by
  have CO := Lib.hid (open_any a len cap zs w h)
  clear h
  go_enter Try.func25, Try.ntmps25
  go_wp2_with fail
  refine CO.out.mono ?_
  rintro e w1 ⟨rfl, hb, hR⟩
  have B1 := Lib.hid hb
  have R1 := Lib.hid hR
  clear hb hR
  go_wp2_with fail
  refine (drw_any _ _ _ R1.out (by omega)).mono ?_
  rintro e w2 ⟨s, l, rfl, hw, hl, hn, hq, hg, hR⟩
  have E := Lib.hid (show GotL w s l w2 from ⟨hw, hl, hn, B1.out.grown hg B1.out.size (fun q hq => by have := Option.some.inj hq; omega)⟩)
  obtain ⟨ax, cx, rfl, _⟩ := hw
  clear hn hq hg hR
  go_wp2_with fail
  go_ret
  exact ⟨.slice ax l.length cx, l, rfl, E.out⟩
set_option maxRecDepth 100000 in
set_option maxHeartbeats 1000000 in
theorem drack_any (a : Option Addr) (len cap : Nat) (zs : List Int) (w : World) (h : IsRow .u8 w a len cap zs) : Calls Try.prog 17 #[.slice a len cap] w (GotWI w) := by
  have CO := Lib.hid (drinc_any a len cap zs w h)
  clear h
  go_enter Try.func17, Try.ntmps17
  go_wp2_with fail
  refine CO.out.mono ?_
  rintro e w1 ⟨v, l, i, rfl, hG⟩
  have E := Lib.hid hG
  obtain ⟨ax, cx, rfl, _⟩ := hG.1
  clear hG
  go_wp2_with fail
  go_ret2
  exact ⟨.slice ax l.length cx, l, i, rfl, E.out⟩
set_option maxRecDepth 100000 in
set_option maxHeartbeats 1000000 in
theorem drloss_any (a : Option Addr) (len cap : Nat) (zs : List Int) (w : World) (h : IsRow .u8 w a len cap zs) : Calls Try.prog 21 #[.slice a len cap] w (GotWI w) := by
  have CO := Lib.hid (drinc_any a len cap zs w h)
  clear h
  go_enter Try.func21, Try.ntmps21
  go_wp2_with fail
  refine CO.out.mono ?_
  rintro e w1 ⟨v, l, i, rfl, hG⟩
  have E := Lib.hid hG
  obtain ⟨ax, cx, rfl, _⟩ := hG.1
  clear hG
  go_wp2_with fail
  go_ret2
  exact ⟨.slice ax l.length cx, l, i, rfl, E.out⟩
end Go.Proofs.Ytkncnebfmidcpaa
