/- The law FnTokenFields: the walk. -/
import Derived.Test.YtbmlckhjjfipbaaTkI
import Derived.Test.YtbmlckhjjfipbaaDrTk
namespace Go.Proofs.Ytbmlckhjjfipbaa
open Go.RowKit
set_option linter.unusedVariables false
set_option linter.unusedSimpArgs false

theorem made_yes {s a t : Int} {w : World} {e : Ending} {w' : World} (k : tkok s a t) (h : Made s a t w e w') : e = .returned (.tuple #[.agg #[.int .i64 a, .int .i64 t, .int .i64 (tkt s a t)], .bool true]) ∧ Below w.heap.size w w' := by
  unfold Made at h
  rw [tkres_ok k, decide_eq_true k] at h
  exact h
theorem made_no {s a t : Int} {w : World} {e : Ending} {w' : World} (k : ¬ tkok s a t) (h : Made s a t w e w') : e = .returned (.tuple #[.agg #[.int .i64 0, .int .i64 0, .int .i64 0], .bool false]) ∧ Below w.heap.size w w' := by
  unfold Made at h
  rw [tkres_no k, decide_eq_false k] at h
  exact h

/-- A block that holds a token. -/
structure Tk3 (w : World) (b : Nat) (x y z : Int) : Prop where
  c0 : w.cell? ⟨b, 0, none⟩ = some (.int .i64 x)
  c1 : w.cell? ⟨b, 1, none⟩ = some (.int .i64 y)
  c2 : w.cell? ⟨b, 2, none⟩ = some (.int .i64 z)
theorem Tk3.new (w : World) (x y z : Int) (T : TypeId) : Tk3 (w.alloc (.cells #[.int .i64 x, .int .i64 y, .int .i64 z] T)) w.heap.size x y z := by
  refine ⟨?_, ?_, ?_⟩ <;> (rw [World.cell?_alloc_mark]; rfl)
theorem Tk3.lt {w : World} {b : Nat} {x y z : Int} (h : Tk3 w b x y z) : b < w.heap.size := World.block_lt_of_cell? w _ h.c0
theorem Tk3.below {w w' : World} {b : Nat} {x y z : Int} (h : Tk3 w b x y z) (hb : Below w.heap.size w w') : Tk3 w' b x y z :=
  ⟨(hb.cell h.lt).trans h.c0, (hb.cell h.lt).trans h.c1, (hb.cell h.lt).trans h.c2⟩
theorem Tk3.alloc {w : World} {b : Nat} {x y z : Int} (h : Tk3 w b x y z) (o : Obj) : Tk3 (w.alloc o) b x y z := h.below ((Below.refl _ _).alloc (Nat.le_refl _) _)

set_option maxRecDepth 100000 in
set_option maxHeartbeats 2000000 in
theorem tkfields_walk (a : Option Addr) (len cap : Nat) (zs : List Int) (w : World) (h : IsRow .u8 w a len cap zs) :
    Calls Try.prog 3 #[.slice a len cap] w fun e w' => e = .returned (.bool true) ∧ Below w.heap.size w w' := by
  have H := Lib.hid h
  clear h
  by_cases hl : 1048576 < len
  · go_enter Try.func3, Try.ntmps3
    go_wp2
    go_ret
    exact ⟨rfl, Below.refl _ _⟩
  go_enter Try.func3, Try.ntmps3
  go_wp2_with fail
  refine (drawTk_any a len cap zs w H.out).mono ?_
  rintro e w1 ⟨s, d, t, ⟨⟨hs0, hs9⟩, ⟨hd0, hd9⟩, ht0, ht9⟩, rfl, hb1⟩
  have B1 := Lib.hid hb1
  clear hb1
  by_cases hk : tkok s d t
  · have HK := Lib.hid hk
    obtain ⟨hg0, hg9⟩ := tkt_bd hk
    clear hk
    go_wp2_with fail
    refine (imake_any s d t w1).mono ?_
    intro e w2 hm
    obtain ⟨rfl, hb2⟩ := made_yes HK.out hm
    have B2 := Lib.hid (B1.out.trans (hb2.mono B1.out.size))
    clear hb2 hm
    have K1 := Lib.hid (Tk3.new w2 d t (tkt s d t) 26)
    have B3 := Lib.hid (B2.out.alloc B2.out.size (.cells #[.int .i64 d, .int .i64 t, .int .i64 (tkt s d t)] 26))
    go_wp2_with fail
    refine (smake_any s d t _).mono ?_
    intro e w3 hm
    obtain ⟨rfl, hb3⟩ := made_yes HK.out hm
    have K2 := Lib.hid (((K1.out.below hb3).alloc (.cells #[.int .i64 d, .int .i64 t, .int .i64 (tkt s d t)] 26)))
    have K3 := Lib.hid (Tk3.new w3 d t (tkt s d t) 26)
    have B4 := Lib.hid ((B3.out.trans (hb3.mono B3.out.size)).alloc (B3.out.trans (hb3.mono B3.out.size)).size (.cells #[.int .i64 d, .int .i64 t, .int .i64 (tkt s d t)] 26))
    clear hb3 hm K1
    obtain ⟨c0, c1, c2⟩ := K2.out
    obtain ⟨c3, c4, c5⟩ := K3.out
    have d1 := decide_eq_true hg0
    have d2 := decide_eq_true hg9
    go_wp2_with fail
    go_ret
    exact ⟨by simp, B4.out⟩
  · have HK := Lib.hid hk
    clear hk
    go_wp2_with fail
    refine (imake_any s d t w1).mono ?_
    intro e w2 hm
    obtain ⟨rfl, hb2⟩ := made_no HK.out hm
    have B2 := Lib.hid (B1.out.trans (hb2.mono B1.out.size))
    clear hb2 hm
    have K1 := Lib.hid (Tk3.new w2 0 0 0 26)
    have B3 := Lib.hid (B2.out.alloc B2.out.size (.cells #[.int .i64 0, .int .i64 0, .int .i64 0] 26))
    go_wp2_with fail
    refine (smake_any s d t _).mono ?_
    intro e w3 hm
    obtain ⟨rfl, hb3⟩ := made_no HK.out hm
    have K2 := Lib.hid (((K1.out.below hb3).alloc (.cells #[.int .i64 0, .int .i64 0, .int .i64 0] 26)))
    have K3 := Lib.hid (Tk3.new w3 0 0 0 26)
    have B4 := Lib.hid ((B3.out.trans (hb3.mono B3.out.size)).alloc (B3.out.trans (hb3.mono B3.out.size)).size (.cells #[.int .i64 0, .int .i64 0, .int .i64 0] 26))
    clear hb3 hm K1
    obtain ⟨c0, c1, c2⟩ := K2.out
    obtain ⟨c3, c4, c5⟩ := K3.out
    go_wp2_with fail
    go_ret
    exact ⟨by simp, B4.out⟩

end Go.Proofs.Ytbmlckhjjfipbaa
