/- The exact law of TokenMake: the walk; the contract of eqToken. -/
import Derived.Test.YtbmlckhjjfipbaaLawTk1
namespace Go.Proofs.Ytbmlckhjjfipbaa
open Go.RowKit
set_option linter.unusedVariables false
set_option linter.unusedSimpArgs false

set_option maxRecDepth 100000 in
set_option maxHeartbeats 1000000 in
theorem eqtk_same (x y z : Int) (w : World) : Calls Try.prog 16 #[.agg #[.int .i64 x, .int .i64 y, .int .i64 z], .agg #[.int .i64 x, .int .i64 y, .int .i64 z]] w fun e w' => e = .returned (.bool true) ∧ Below w.heap.size w w' := by
  go_enter Try.func16, Try.ntmps16
  go_wp2_with fail
  go_ret
  exact ⟨rfl, by first | exact ((Below.refl _ _).alloc (Nat.le_refl _) _).alloc (by simp) _ | skip⟩

set_option maxRecDepth 100000 in
set_option maxHeartbeats 1000000 in
theorem extkmake_walk (s d t : Int) (w : World) : Calls Try.prog 9 #[.int .i64 s, .int .i64 d, .int .i64 t] w fun e w' => e = .returned (.bool true) ∧ Below w.heap.size w w' := by
  by_cases hk : tkok s d t
  · have HK := Lib.hid hk
    clear hk
    go_enter Try.func9, Try.ntmps9
    go_wp2_with fail
    refine (smake_any s d t w).mono ?_
    intro e w2 hm
    obtain ⟨rfl, hb2⟩ := made_yes HK.out hm
    have B2 := Lib.hid hb2
    clear hb2 hm
    have K1 := Lib.hid (Tk3.new w2 d t (tkt s d t) 26)
    have B3 := Lib.hid (B2.out.alloc B2.out.size (.cells #[.int .i64 d, .int .i64 t, .int .i64 (tkt s d t)] 26))
    go_wp2_with fail
    refine (imake_any s d t _).mono ?_
    intro e w3 hm
    obtain ⟨rfl, hb3⟩ := made_yes HK.out hm
    have K2 := Lib.hid (((K1.out.below hb3).alloc (.cells #[.int .i64 d, .int .i64 t, .int .i64 (tkt s d t)] 26)))
    have K3 := Lib.hid (Tk3.new w3 d t (tkt s d t) 26)
    have B4 := Lib.hid ((B3.out.trans (hb3.mono B3.out.size)).alloc (B3.out.trans (hb3.mono B3.out.size)).size (.cells #[.int .i64 d, .int .i64 t, .int .i64 (tkt s d t)] 26))
    clear hb3 hm K1
    obtain ⟨c0, c1, c2⟩ := K2.out
    obtain ⟨c3, c4, c5⟩ := K3.out
    go_wp2_with fail
    refine (eqtk_same _ _ _ _).mono ?_
    rintro e w4 ⟨rfl, hb4⟩
    have B5 := Lib.hid (B4.out.trans (hb4.mono B4.out.size))
    clear hb4
    go_wp2_with fail
    go_ret
    exact ⟨rfl, B5.out⟩
  · have HK := Lib.hid hk
    clear hk
    go_enter Try.func9, Try.ntmps9
    go_wp2_with fail
    refine (smake_any s d t w).mono ?_
    intro e w2 hm
    obtain ⟨rfl, hb2⟩ := made_no HK.out hm
    have B2 := Lib.hid hb2
    clear hb2 hm
    have K1 := Lib.hid (Tk3.new w2 0 0 0 26)
    have B3 := Lib.hid (B2.out.alloc B2.out.size (.cells #[.int .i64 0, .int .i64 0, .int .i64 0] 26))
    go_wp2_with fail
    refine (imake_any s d t _).mono ?_
    intro e w3 hm
    obtain ⟨rfl, hb3⟩ := made_no HK.out hm
    have K2 := Lib.hid (((K1.out.below hb3).alloc (.cells #[.int .i64 0, .int .i64 0, .int .i64 0] 26)))
    have K3 := Lib.hid (Tk3.new w3 0 0 0 26)
    have B4 := Lib.hid ((B3.out.trans (hb3.mono B3.out.size)).alloc (B3.out.trans (hb3.mono B3.out.size)).size (.cells #[.int .i64 0, .int .i64 0, .int .i64 0] 26))
    clear hb3 hm K1
    obtain ⟨c0, c1, c2⟩ := K2.out
    obtain ⟨c3, c4, c5⟩ := K3.out
    go_wp2_with fail
    refine (eqtk_same _ _ _ _).mono ?_
    rintro e w4 ⟨rfl, hb4⟩
    have B5 := Lib.hid (B4.out.trans (hb4.mono B4.out.size))
    clear hb4
    go_wp2_with fail
    go_ret
    exact ⟨rfl, B5.out⟩

end Go.Proofs.Ytbmlckhjjfipbaa
