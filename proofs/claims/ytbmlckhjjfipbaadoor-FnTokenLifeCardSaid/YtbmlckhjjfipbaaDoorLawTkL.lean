/- The law FnTokenLife: the walk. -/
import Derived.Test.YtbmlckhjjfipbaaDoorTk3
import Derived.Test.YtbmlckhjjfipbaaDoorAcc
import Derived.Test.YtbmlckhjjfipbaaDoorDrTk
namespace Go.Proofs.YtbmlckhjjfipbaaDoor
open Go.RowKit
set_option linter.unusedVariables false
set_option linter.unusedSimpArgs false

theorem tkacc_life {s d t n : Int} (k : tkok s d t) : decide (tkacc s d t (tkt s d t) d n) = (decide (t ≤ n) && (decide (n ≤ t + 20) && decide (n ≤ 999))) := by
  obtain ⟨k1, k2, k3⟩ := k
  rw [Bool.eq_iff_iff]
  simp only [Bool.and_eq_true, decide_eq_true_eq]
  constructor
  · rintro ⟨⟨_, _, h3⟩, _, h5, h6, _⟩
    exact ⟨h5.2, h6, h3.2⟩
  · rintro ⟨h1, h2, h3⟩
    exact ⟨⟨k1, k2, by omega, h3⟩, rfl, ⟨k3.1, h1⟩, h2, rfl⟩

set_option maxRecDepth 100000 in
set_option maxHeartbeats 4000000 in
theorem tklife_walk (a : Option Addr) (len cap : Nat) (zs : List Int) (a1 : Option Addr) (len1 cap1 : Nat) (zs1 : List Int) (b : Addr) (w : World) (h : IsRow .u8 w a len cap zs) (h1 : IsRow .u8 w a1 len1 cap1 zs1) (hg : Glob w b) :
    Calls Tryd.prog 3 #[.slice a len cap, .slice a1 len1 cap1] w fun e w' => e = .returned (.bool true) ∧ Below w.heap.size w w' := by
  have H := Lib.hid h
  have HG := Lib.hid hg
  have H0 := Lib.hid (World.block_lt_of_cell? w _ hg)
  clear h h1 hg
  by_cases hl : 1048576 < len
  · go_enter Tryd.func3, Tryd.ntmps3
    go_wp2
    go_ret
    exact ⟨rfl, Below.refl _ _⟩
  by_cases hl1 : 1048576 < len1
  · go_enter Tryd.func3, Tryd.ntmps3
    go_wp2
    go_ret
    exact ⟨rfl, Below.refl _ _⟩
  go_enter Tryd.func3, Tryd.ntmps3
  go_wp2_with fail
  refine (drawTk_any a len cap zs w H.out).mono ?_
  rintro e w1 ⟨s, d, t, ⟨⟨hs0, hs9⟩, ⟨hd0, hd9⟩, ht0, ht9⟩, rfl, hb1⟩
  have B1 := Lib.hid hb1
  clear hb1
  by_cases hk : tkok s d t
  · have HK := Lib.hid hk
    obtain ⟨hg0, hg9⟩ := tkt_bd hk
    obtain ⟨hk1, hk2, hk3⟩ := id hk
    clear hk
    go_wp2_with fail
    refine (imake_any s d t w1).mono ?_
    intro e w2 hm
    obtain ⟨rfl, hb2⟩ := made_yes HK.out hm
    have B2 := Lib.hid (B1.out.trans (hb2.mono B1.out.size))
    clear hb2 hm
    have K1 := Lib.hid (Tk3.new w2 d t (tkt s d t) 26)
    have B3 := Lib.hid (B2.out.alloc B2.out.size (.cells #[.int .i64 d, .int .i64 t, .int .i64 (tkt s d t)] 26))
    go_wp2_with fail
    refine (smake_any s d t _).mono ?_
    intro e w3 hm
    obtain ⟨rfl, hb3⟩ := made_yes HK.out hm
    have K2 := Lib.hid (((K1.out.below hb3).alloc (.cells #[.int .i64 d, .int .i64 t, .int .i64 (tkt s d t)] 26)))
    have K3 := Lib.hid (Tk3.new w3 d t (tkt s d t) 26)
    have B4 := Lib.hid ((B3.out.trans (hb3.mono B3.out.size)).alloc (B3.out.trans (hb3.mono B3.out.size)).size (.cells #[.int .i64 d, .int .i64 t, .int .i64 (tkt s d t)] 26))
    have G4 := Lib.hid (HG.out.mono H0.out B4.out)
    clear hb3 hm K1
    obtain ⟨c0, c1, c2⟩ := K2.out
    obtain ⟨c3, c4, c5⟩ := K3.out
    obtain ⟨m, hm⟩ : ∃ m : Int, (len1 : Int) % 30 = m := ⟨_, rfl⟩
    have hm0 : 0 ≤ m ∧ m < 30 := by omega
    have hmt : Int.tmod (len1 : Int) 30 = m := by rw [← hm]; exact Int.tmod_eq_emod_of_nonneg (by omega)
    obtain ⟨hm0, hm9⟩ := hm0
    clear hm
    have hL := tkacc_life (s := s) (d := d) (t := t) (n := t + m - 3) ⟨hk1, hk2, hk3⟩
    obtain ⟨hk3, hk4⟩ := hk3
    clear hk1 hk2
    by_cases e1 : t ≤ t + m - 3
    · by_cases e2 : t + m - 3 ≤ t + 20
      · by_cases e3 : t + m - 3 ≤ 999
        · have d1 := decide_eq_true e1
          have d2 := decide_eq_true e2
          have d3 := decide_eq_true e3
          rw [d1, d2, d3] at hL
          have HL := Lib.hid hL
          clear hL
          go_wp2_with fail
          refine (iacc_any s d t (tkt s d t) d (t + m - 3) b _ G4.out).mono ?_
          rw [HL.out]
          rintro e w5 ⟨rfl, hb5⟩
          have B5 := Lib.hid (B4.out.trans (hb5.mono B4.out.size))
          clear hb5
          go_wp2_with fail
          go_ret
          exact ⟨by simp, B5.out⟩
        · have d1 := decide_eq_true e1
          have d2 := decide_eq_true e2
          have d3 := decide_eq_false e3
          rw [d1, d2, d3] at hL
          have HL := Lib.hid hL
          clear hL
          go_wp2_with fail
          refine (iacc_any s d t (tkt s d t) d (t + m - 3) b _ G4.out).mono ?_
          rw [HL.out]
          rintro e w5 ⟨rfl, hb5⟩
          have B5 := Lib.hid (B4.out.trans (hb5.mono B4.out.size))
          clear hb5
          go_wp2_with fail
          go_ret
          exact ⟨by simp, B5.out⟩
      · have d1 := decide_eq_true e1
        have d2 := decide_eq_false e2
        rw [d1, d2] at hL
        have HL := Lib.hid hL
        clear hL
        go_wp2_with fail
        refine (iacc_any s d t (tkt s d t) d (t + m - 3) b _ G4.out).mono ?_
        rw [HL.out]
        rintro e w5 ⟨rfl, hb5⟩
        have B5 := Lib.hid (B4.out.trans (hb5.mono B4.out.size))
        clear hb5
        go_wp2_with fail
        go_ret
        exact ⟨by simp, B5.out⟩
    · have d1 := decide_eq_false e1
      rw [d1] at hL
      have HL := Lib.hid hL
      clear hL
      go_wp2_with fail
      refine (iacc_any s d t (tkt s d t) d (t + m - 3) b _ G4.out).mono ?_
      rw [HL.out]
      rintro e w5 ⟨rfl, hb5⟩
      have B5 := Lib.hid (B4.out.trans (hb5.mono B4.out.size))
      clear hb5
      go_wp2_with fail
      go_ret
      exact ⟨by simp, B5.out⟩
  · have HK := Lib.hid hk
    clear hk
    go_wp2_with fail
    refine (imake_any s d t w1).mono ?_
    intro e w2 hm
    obtain ⟨rfl, hb2⟩ := made_no HK.out hm
    have B2 := Lib.hid (B1.out.trans (hb2.mono B1.out.size))
    clear hb2 hm
    have K1 := Lib.hid (Tk3.new w2 0 0 0 26)
    have B3 := Lib.hid (B2.out.alloc B2.out.size (.cells #[.int .i64 0, .int .i64 0, .int .i64 0] 26))
    go_wp2_with fail
    refine (smake_any s d t _).mono ?_
    intro e w3 hm
    obtain ⟨rfl, hb3⟩ := made_no HK.out hm
    have K2 := Lib.hid (((K1.out.below hb3).alloc (.cells #[.int .i64 0, .int .i64 0, .int .i64 0] 26)))
    have K3 := Lib.hid (Tk3.new w3 0 0 0 26)
    have B4 := Lib.hid ((B3.out.trans (hb3.mono B3.out.size)).alloc (B3.out.trans (hb3.mono B3.out.size)).size (.cells #[.int .i64 0, .int .i64 0, .int .i64 0] 26))
    clear hb3 hm K1
    obtain ⟨c0, c1, c2⟩ := K2.out
    obtain ⟨c3, c4, c5⟩ := K3.out
    go_wp2_with fail
    go_ret
    exact ⟨by simp, B4.out⟩

end Go.Proofs.YtbmlckhjjfipbaaDoor
