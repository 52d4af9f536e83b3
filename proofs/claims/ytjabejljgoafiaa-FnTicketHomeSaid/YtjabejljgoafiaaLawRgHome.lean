/- The law FnTicketHome: the walk. -/
import Derived.Test.YtjabejljgoafiaaDrHome
import Derived.Deep.CutBlock
namespace Go.Proofs.Ytjabejljgoafiaa
open Go.RowKit
set_option linter.unusedVariables false
set_option linter.unusedSimpArgs false

theorem home_cases (n x y : Int) : home n (x, y) = -1 ∨ ((1 ≤ n ∧ n ≤ 4) ∧ tkvd (x, y) ∧ home n (x, y) = x % n ∧ 0 ≤ x % n ∧ x % n < n) := by
  by_cases h : (1 ≤ n ∧ n ≤ 4) ∧ tkvd (x, y)
  · exact .inr ⟨h.1, h.2, home_yes h, Int.emod_nonneg _ (by omega), Int.emod_lt_of_pos _ (by omega)⟩
  · exact .inl (home_no h)
set_option maxRecDepth 100000 in
set_option maxHeartbeats 4000000 in
theorem tkhome_walk (a : Option Addr) (len cap : Nat) (zs : List Int) (a' : Option Addr) (len' cap' : Nat) (zs' : List Int) (w : World) (h : IsRow .u8 w a len cap zs) (h' : IsRow .u8 w a' len' cap' zs') :
    Calls Try.prog 10 #[.slice a len cap, .slice a' len' cap'] w fun e w' => e = .returned (.bool true) ∧ Below w.heap.size w w' := by
  have H := Lib.hid h
  clear h h'
  by_cases hl : 1048576 < len
  · go_enter Try.func10, Try.ntmps10
    go_wp2
    go_ret
    exact ⟨rfl, Below.refl _ _⟩
  by_cases hl' : 1048576 < len'
  · go_enter Try.func10, Try.ntmps10
    go_wp2
    go_ret
    exact ⟨rfl, Below.refl _ _⟩
  go_enter Try.func10, Try.ntmps10
  go_wp2_with fail
  refine (drhome_any a len cap zs w H.out).mono ?_
  rintro e w1 ⟨n, x, y, rfl, hn, hb1⟩
  have B1 := Lib.hid (hb1.alloc hb1.size (.cells #[.int .i64 x, .int .i64 y] 27))
  have T1 := Lib.hid (RgV.new w1 x (.int .i64 y) 27)
  clear hb1
  go_upto_region 4 with fail
  generalize w1.alloc (.cells #[.int .i64 x, .int .i64 y] 27) = W1 at B1 T1 ⊢
  generalize w1.heap.size = tb at T1 ⊢
  have HC := Lib.hid (home_cases n x y)
  have CI := Lib.hid (fun W => ihome_any n x y W)
  have CS := Lib.hid (fun W => shome_any n x y W)
  obtain ⟨o, ho⟩ : ∃ o, home n (x, y) = o := ⟨_, rfl⟩
  rw [ho] at CI CS HC
  clear ho
  obtain ⟨t0, t1⟩ := T1.out
  go_wp2_with fail
  refine (CI.out _).mono ?_
  rintro e w2 ⟨rfl, hb2⟩
  have B2 := Lib.hid (B1.out.trans (hb2.mono B1.out.size))
  have T2 := Lib.hid (T1.out.below hb2)
  clear hb2 t0 t1 B1 T1
  obtain ⟨t0, t1⟩ := T2.out
  go_wp2_with fail
  refine (CS.out _).mono ?_
  rintro e w3 ⟨rfl, hb3⟩
  have B3 := Lib.hid (B2.out.trans (hb3.mono B2.out.size))
  have T3 := Lib.hid (T2.out.below hb3)
  clear hb3 t0 t1 B2 T2
  obtain ⟨t0, t1⟩ := T3.out
  by_cases hneg : o < 0
  · have d1 := decide_eq_true hneg
    go_wp2_with fail
    go_ret
    exact ⟨by simp, B3.out⟩
  · have d1 := decide_eq_false hneg
    have HK : Hid ((1 ≤ n ∧ n ≤ 4) ∧ tkvd (x, y) ∧ o = x % n ∧ 0 ≤ x % n ∧ x % n < n) := Lib.hid (by
      rcases HC.out with h | h
      · omega
      · exact h)
    have hlt : o < n := by have := HK.out; omega
    have d2 := decide_eq_true hlt
    have hz0 : (0 : Int) ≤ (len' : Int) % 1000 := by omega
    have hz9 : (len' : Int) % 1000 ≤ 999 := by omega
    have HH : Hid (home n (x, (len' : Int) % 1000) = o) := Lib.hid (by
      rw [home_yes (n := n) (t := (x, (len' : Int) % 1000)) ⟨HK.out.1, HK.out.2.1.1, by show 0 ≤ (len' : Int) % 1000; omega, by show (len' : Int) % 1000 ≤ 999; omega⟩]
      exact HK.out.2.2.1.symm)
    have U3 : Below w3.heap.size w3 (w3.alloc (.cells #[.int .i64 x, .int .i64 y] 27)) := (Below.refl _ _).alloc (Nat.le_refl _) _
    have N3 := Lib.hid (RgV.new w3 x (.int .i64 y) 27)
    have NF3 := Lib.hid (Soft.new w3 #[.int .i64 x, .int .i64 y] 27)
    have B4 := Lib.hid (B3.out.trans (U3.mono B3.out.size))
    have hwn : Hid (w.heap.size ≤ w3.heap.size) := Lib.hid B3.out.size
    clear U3 B3
    go_upto_region 9 with fail
    generalize w3.alloc (.cells #[.int .i64 x, .int .i64 y] 27) = W4 at N3 NF3 B4 ⊢
    generalize w3.heap.size = nb at N3 NF3 hwn ⊢
    obtain ⟨n0, n1⟩ := N3.out
    have g1 := NF3.out 1
    have N5 := Lib.hid (N3.out.set1 (.int .i64 ((len' : Int) % 1000)))
    have B5 := Lib.hid (B4.out.setCell (p := ⟨nb, 1, none⟩) hwn.out (.int .i64 ((len' : Int) % 1000)))
    go_upto_region 10 with fail
    generalize W4.setCell ⟨nb, 1, none⟩ (.int .i64 ((len' : Int) % 1000)) = W5 at N5 B5 ⊢
    clear n0 n1 g1 N3 NF3 B4
    obtain ⟨n0, n1⟩ := N5.out
    have CH := Lib.hid (ihome_any n x ((len' : Int) % 1000) W5)
    rw [HH.out] at CH
    go_wp2_with fail
    refine CH.out.mono ?_
    rintro e w6 ⟨rfl, hb6⟩
    have B6 := Lib.hid (B5.out.trans (hb6.mono B5.out.size))
    clear hb6
    go_wp2_with fail
    go_ret
    exact ⟨by simp, B6.out⟩

end Go.Proofs.Ytjabejljgoafiaa
