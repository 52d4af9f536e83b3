/- The law FnTokenTag: the walk. -/
import Derived.Test.YtbmlckhjjfipbaaDoorTk3
import Derived.Test.YtbmlckhjjfipbaaDoorAcc
import Derived.Test.YtbmlckhjjfipbaaDoorDrTk
import Derived.Deep.DeepCutAuto
namespace Go.Proofs.YtbmlckhjjfipbaaDoor
open Go.RowKit
set_option linter.unusedVariables false
set_option linter.unusedSimpArgs false

set_option maxRecDepth 100000 in
set_option maxHeartbeats 4000000 in
theorem tktag_walk (a : Option Addr) (len cap : Nat) (zs : List Int) (a1 : Option Addr) (len1 cap1 : Nat) (zs1 : List Int) (b : Addr) (w : World) (h : IsRow .u8 w a len cap zs) (h1 : IsRow .u8 w a1 len1 cap1 zs1) (hg : Glob w b) :
    Calls Tryd.prog 5 #[.slice a len cap, .slice a1 len1 cap1] w fun e w' => e = .returned (.bool true) ∧ Below w.heap.size w w' := by
  have H := Lib.hid h
  have HG := Lib.hid hg
  have H0 := Lib.hid (World.block_lt_of_cell? w _ hg)
  clear h h1 hg
  by_cases hl : 1048576 < len
  · go_enter Tryd.func5, Tryd.ntmps5
    go_wp2
    go_ret
    exact ⟨rfl, Below.refl _ _⟩
  by_cases hl1 : 1048576 < len1
  · go_enter Tryd.func5, Tryd.ntmps5
    go_wp2
    go_ret
    exact ⟨rfl, Below.refl _ _⟩
  go_enter Tryd.func5, Tryd.ntmps5
  go_wp2_with fail
  refine (drawTk_any a len cap zs w H.out).mono ?_
  rintro e w1 ⟨s, d, t, ⟨⟨hs0, hs9⟩, ⟨hd0, hd9⟩, ht0, ht9⟩, rfl, hb1⟩
  have B1 := Lib.hid hb1
  clear hb1
  by_cases hk : tkok s d t
  · have HK := Lib.hid hk
    obtain ⟨hg0, hg9⟩ := tkt_bd hk
    obtain ⟨hk1, hk2, hk3⟩ := id hk
    clear hk
    go_wp2_with fail
    refine (imake_any s d t w1).mono ?_
    intro e w2 hm
    obtain ⟨rfl, hb2⟩ := made_yes HK.out hm
    have B2 := Lib.hid (B1.out.trans (hb2.mono B1.out.size))
    clear hb2 hm
    have K1 := Lib.hid (Tk3.new w2 d t (tkt s d t) 26)
    have B3 := Lib.hid (B2.out.alloc B2.out.size (.cells #[.int .i64 d, .int .i64 t, .int .i64 (tkt s d t)] 26))
    go_wp2_with fail
    refine (smake_any s d t _).mono ?_
    intro e w3 hm
    obtain ⟨rfl, hb3⟩ := made_yes HK.out hm
    have K2 := Lib.hid (((K1.out.below hb3).alloc (.cells #[.int .i64 d, .int .i64 t, .int .i64 (tkt s d t)] 26)))
    have K3 := Lib.hid (Tk3.new w3 d t (tkt s d t) 26)
    have B4 := Lib.hid ((B3.out.trans (hb3.mono B3.out.size)).alloc (B3.out.trans (hb3.mono B3.out.size)).size (.cells #[.int .i64 d, .int .i64 t, .int .i64 (tkt s d t)] 26))
    have G4 := Lib.hid (HG.out.mono H0.out B4.out)
    clear hb3 hm K1
    obtain ⟨c0, c1, c2⟩ := K2.out
    obtain ⟨c3, c4, c5⟩ := K3.out
    obtain ⟨m, hm⟩ : ∃ m : Int, (len1 : Int) % 100 = m := ⟨_, rfl⟩
    have hm0 : 0 ≤ m ∧ m < 100 := by omega
    have hmt : Int.tmod (len1 : Int) 100 = m := by rw [← hm]; exact Int.tmod_eq_emod_of_nonneg (by omega)
    obtain ⟨hm0, hm9⟩ := hm0
    clear hm hk1 hk2 hk3
    have L1 := Lib.hid (show decide (tkacc s d t (tkt s d t + 1 + m) d t) = false from decide_eq_false fun k => by have := k.2.2.2.2; omega)
    have L2 := Lib.hid (show decide (tkacc s (d + 1) t (tkt s d t) d t) = false from decide_eq_false fun k => by have := k.2.1; omega)
    have L3 := Lib.hid (show decide (tkacc s d (t + 1) (tkt s d t) d t) = false from decide_eq_false fun k => by have := k.2.2.1.2; omega)
    go_upto_region 8 with fail
    obtain ⟨W4, hW4⟩ : ∃ W4, W4 = w3.alloc (.cells #[.int .i64 d, .int .i64 t, .int .i64 (tkt s d t)] 26) := ⟨_, rfl⟩
    rw [← hW4] at K2 B4 G4 c0 c1 c2 ⊢
    clear hW4 K3 c3 c4 c5
    have L4 := K2.out.lt
    have O4 := K2
    clear K2
    have L4b := Lib.hid (Nat.ne_of_gt L4)
    have A5 : Hid (Tk3 (W4.alloc (.cells #[.int .i64 d, .int .i64 t, .int .i64 (tkt s d t + 1 + m)] 26)) W4.heap.size d t (tkt s d t + 1 + m)) := Lib.hid (Tk3.new W4 _ _ _ _)
    have O5 : Hid (Tk3 (W4.alloc (.cells #[.int .i64 d, .int .i64 t, .int .i64 (tkt s d t + 1 + m)] 26)) w2.heap.size d t (tkt s d t)) := Lib.hid (O4.out.alloc _)
    have B5 : Hid (Below w.heap.size w (W4.alloc (.cells #[.int .i64 d, .int .i64 t, .int .i64 (tkt s d t + 1 + m)] 26))) := Lib.hid (B4.out.alloc B4.out.size _)
    obtain ⟨c0, c1, c2⟩ := O4.out
    go_upto_region 10 with fail
    clear c0 c1 c2
    obtain ⟨W5, hW5⟩ : ∃ W5, W5 = W4.alloc (.cells #[.int .i64 d, .int .i64 t, .int .i64 (tkt s d t + 1 + m)] 26) := ⟨_, rfl⟩
    rw [← hW5] at A5 O5 B5  ⊢
    clear hW5 L4b
    have L5 := O5.out.lt
    have P5 := A5
    clear A5
    have L5b := Lib.hid (Nat.ne_of_gt L5)
    have A6 : Hid (Tk3 (W5.alloc (.cells #[.int .i64 (d + 1), .int .i64 t, .int .i64 (tkt s d t)] 26)) W5.heap.size (d + 1) t (tkt s d t)) := Lib.hid (Tk3.new W5 _ _ _ _)
    have O6 : Hid (Tk3 (W5.alloc (.cells #[.int .i64 (d + 1), .int .i64 t, .int .i64 (tkt s d t)] 26)) w2.heap.size d t (tkt s d t)) := Lib.hid (O5.out.alloc _)
    have P6 : Hid (Tk3 (W5.alloc (.cells #[.int .i64 (d + 1), .int .i64 t, .int .i64 (tkt s d t)] 26)) W4.heap.size d t (tkt s d t + 1 + m)) := Lib.hid (P5.out.alloc _)
    have B6 : Hid (Below w.heap.size w (W5.alloc (.cells #[.int .i64 (d + 1), .int .i64 t, .int .i64 (tkt s d t)] 26))) := Lib.hid (B5.out.alloc B5.out.size _)
    obtain ⟨c0, c1, c2⟩ := O5.out
    go_upto_region 12 with fail
    clear c0 c1 c2
    obtain ⟨W6, hW6⟩ : ∃ W6, W6 = W5.alloc (.cells #[.int .i64 (d + 1), .int .i64 t, .int .i64 (tkt s d t)] 26) := ⟨_, rfl⟩
    rw [← hW6] at A6 O6 B6 P6 ⊢
    clear hW6 L5b
    have L6 := O6.out.lt
    have Q6 := A6
    clear A6
    have L6b := Lib.hid (Nat.ne_of_gt L6)
    have A7 : Hid (Tk3 (W6.alloc (.cells #[.int .i64 d, .int .i64 (t + 1), .int .i64 (tkt s d t)] 26)) W6.heap.size d (t + 1) (tkt s d t)) := Lib.hid (Tk3.new W6 _ _ _ _)
    have O7 : Hid (Tk3 (W6.alloc (.cells #[.int .i64 d, .int .i64 (t + 1), .int .i64 (tkt s d t)] 26)) w2.heap.size d t (tkt s d t)) := Lib.hid (O6.out.alloc _)
    have P7 : Hid (Tk3 (W6.alloc (.cells #[.int .i64 d, .int .i64 (t + 1), .int .i64 (tkt s d t)] 26)) W4.heap.size d t (tkt s d t + 1 + m)) := Lib.hid (P6.out.alloc _)
    have Q7 : Hid (Tk3 (W6.alloc (.cells #[.int .i64 d, .int .i64 (t + 1), .int .i64 (tkt s d t)] 26)) W5.heap.size (d + 1) t (tkt s d t)) := Lib.hid (Q6.out.alloc _)
    have B7 : Hid (Below w.heap.size w (W6.alloc (.cells #[.int .i64 d, .int .i64 (t + 1), .int .i64 (tkt s d t)] 26))) := Lib.hid (B6.out.alloc B6.out.size _)
    obtain ⟨c0, c1, c2⟩ := O6.out
    go_upto_region 14 with fail
    clear c0 c1 c2
    obtain ⟨W7, hW7⟩ : ∃ W7, W7 = W6.alloc (.cells #[.int .i64 d, .int .i64 (t + 1), .int .i64 (tkt s d t)] 26) := ⟨_, rfl⟩
    rw [← hW7] at A7 O7 B7 P7 Q7 ⊢
    clear hW7 L6b
    have L7 := O7.out.lt
    have R7 := A7
    clear A7
    have G7 := Lib.hid (HG.out.mono H0.out B7.out)
    obtain ⟨p0, p1, p2⟩ := P7.out
    go_wp2_with fail
    refine (iacc_any s d t (tkt s d t + 1 + m) d t b _ G7.out).mono ?_
    rw [L1.out]
    rintro e w8 ⟨rfl, hb8⟩
    have B8 := Lib.hid (B7.out.trans (hb8.mono B7.out.size))
    obtain ⟨q0, q1, q2⟩ := Q7.out.below hb8
    have R8 := Lib.hid (R7.out.below hb8)
    have G8 := Lib.hid (HG.out.mono H0.out B8.out)
    clear hb8 p0 p1 p2
    go_wp2_with fail
    refine (iacc_any s (d + 1) t (tkt s d t) d t b _ G8.out).mono ?_
    rw [L2.out]
    rintro e w9 ⟨rfl, hb9⟩
    have B9 := Lib.hid (B8.out.trans (hb9.mono B8.out.size))
    obtain ⟨r0, r1, r2⟩ := R8.out.below hb9
    have G9 := Lib.hid (HG.out.mono H0.out B9.out)
    clear hb9 q0 q1 q2
    go_wp2_with fail
    refine (iacc_any s d (t + 1) (tkt s d t) d t b _ G9.out).mono ?_
    rw [L3.out]
    rintro e w10 ⟨rfl, hb10⟩
    have B10 := Lib.hid (B9.out.trans (hb10.mono B9.out.size))
    clear hb10 r0 r1 r2
    go_wp2_with fail
    go_ret
    exact ⟨by simp, B10.out⟩
  · have HK := Lib.hid hk
    clear hk
    go_wp2_with fail
    refine (imake_any s d t w1).mono ?_
    intro e w2 hm
    obtain ⟨rfl, hb2⟩ := made_no HK.out hm
    have B2 := Lib.hid (B1.out.trans (hb2.mono B1.out.size))
    clear hb2 hm
    have K1 := Lib.hid (Tk3.new w2 0 0 0 26)
    have B3 := Lib.hid (B2.out.alloc B2.out.size (.cells #[.int .i64 0, .int .i64 0, .int .i64 0] 26))
    go_wp2_with fail
    refine (smake_any s d t _).mono ?_
    intro e w3 hm
    obtain ⟨rfl, hb3⟩ := made_no HK.out hm
    have K2 := Lib.hid (((K1.out.below hb3).alloc (.cells #[.int .i64 0, .int .i64 0, .int .i64 0] 26)))
    have K3 := Lib.hid (Tk3.new w3 0 0 0 26)
    have B4 := Lib.hid ((B3.out.trans (hb3.mono B3.out.size)).alloc (B3.out.trans (hb3.mono B3.out.size)).size (.cells #[.int .i64 0, .int .i64 0, .int .i64 0] 26))
    clear hb3 hm K1
    obtain ⟨c0, c1, c2⟩ := K2.out
    obtain ⟨c3, c4, c5⟩ := K3.out
    go_wp2_with fail
    go_ret
    exact ⟨by simp, B4.out⟩

end Go.Proofs.YtbmlckhjjfipbaaDoor
