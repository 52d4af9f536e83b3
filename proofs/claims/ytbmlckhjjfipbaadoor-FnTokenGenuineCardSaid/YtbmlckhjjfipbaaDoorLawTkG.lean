/- The law FnTokenGenuine: the walk. -/
import Derived.Test.YtbmlckhjjfipbaaDoorTk3
import Derived.Test.YtbmlckhjjfipbaaDoorAcc
import Derived.Test.YtbmlckhjjfipbaaDoorDrAc
namespace Go.Proofs.YtbmlckhjjfipbaaDoor
open Go.RowKit
set_option linter.unusedVariables false
set_option linter.unusedSimpArgs false

set_option maxRecDepth 100000 in
set_option maxHeartbeats 4000000 in
theorem tkgen_walk (a : Option Addr) (len cap : Nat) (zs : List Int) (b : Addr) (w : World) (h : IsRow .u8 w a len cap zs) (hg : Glob w b) :
    Calls Tryd.prog 6 #[.slice a len cap] w fun e w' => e = .returned (.bool true) ∧ Below w.heap.size w w' := by
  have H := Lib.hid h
  have HG := Lib.hid hg
  have H0 := Lib.hid (World.block_lt_of_cell? w _ hg)
  clear h hg
  by_cases hl : 1048576 < len
  · go_enter Tryd.func6, Tryd.ntmps6
    go_wp2
    go_ret
    exact ⟨rfl, Below.refl _ _⟩
  go_enter Tryd.func6, Tryd.ntmps6
  go_wp2_with fail
  refine (drawAc_any a len cap zs w H.out).mono ?_
  rintro e w1 ⟨s, x, y, z, d, n, ⟨⟨hs0, hs9⟩, ⟨hd0, hd9⟩, ⟨hy0, hy9⟩, hn0, hn9⟩, rfl, hb1⟩
  have K1 := Lib.hid (Tk3.new w1 x y z 26)
  have B1 := Lib.hid (hb1.alloc hb1.size (.cells #[.int .i64 x, .int .i64 y, .int .i64 z] 26))
  have G1 := Lib.hid (HG.out.mono H0.out B1.out)
  clear hb1
  obtain ⟨c0, c1, c2⟩ := K1.out
  go_wp2_with fail
  refine (iacc_any s x y z d n b _ G1.out).mono ?_
  rintro e w2 ⟨rfl, hb2⟩
  have K2 := Lib.hid (K1.out.below hb2)
  have B2 := Lib.hid (B1.out.trans (hb2.mono B1.out.size))
  clear hb2 c0 c1 c2 K1 G1
  obtain ⟨c0, c1, c2⟩ := K2.out
  go_wp2_with fail
  refine (sacc_any s x y z d n _).mono ?_
  rintro e w3 ⟨rfl, hb3⟩
  have K3 := Lib.hid (K2.out.below hb3)
  have B3 := Lib.hid (B2.out.trans (hb3.mono B2.out.size))
  clear hb3 c0 c1 c2 K2
  obtain ⟨c0, c1, c2⟩ := K3.out
  by_cases hp : tkacc s x y z d n
  · have hd := decide_eq_true hp
    obtain ⟨h1, h2, ⟨h3, h4⟩, h5, h6⟩ := hp
    have HK : Hid (tkok s d y) := Lib.hid ⟨h1.1, h1.2.1, h3, by have := h1.2.2.2; omega⟩
    rw [hd]
    have HZ := Lib.hid h6
    clear h1 h6 hd
    subst h2
    go_wp2_with fail
    refine (imake_any s x y _).mono ?_
    intro e w4 hm
    obtain ⟨rfl, hb4⟩ := made_yes HK.out hm
    rw [← HZ.out]
    have K4 := Lib.hid ((K3.out.below hb4).alloc (.cells #[.int .i64 x, .int .i64 y, .int .i64 z] 26))
    have K5 := Lib.hid (Tk3.new w4 x y z 26)
    have B4 := Lib.hid ((B3.out.trans (hb4.mono B3.out.size)).alloc (B3.out.trans (hb4.mono B3.out.size)).size (.cells #[.int .i64 x, .int .i64 y, .int .i64 z] 26))
    clear hb4 hm K3 c0 c1 c2
    obtain ⟨c0, c1, c2⟩ := K4.out
    obtain ⟨c3, c4, c5⟩ := K5.out
    have e4 := decide_eq_true h4
    have e5 := decide_eq_true h5
    go_wp2_with fail
    go_ret
    exact ⟨by simp, B4.out⟩
  · have hd := decide_eq_false hp
    rw [hd]
    clear hp hd
    go_wp2_with fail
    go_ret
    exact ⟨by simp, B3.out⟩

end Go.Proofs.YtbmlckhjjfipbaaDoor
