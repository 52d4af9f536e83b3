/- The law RangesFill: the walk. -/
import Derived.Test.YtcjhbcibhcogjaaIGaps
import Derived.Test.YtcjhbcibhcogjaaSameRg
import Derived.Test.YtcjhbcibhcogjaaDrGaps
import Derived.Test.YtcjhbcibhcogjaaIUn
import Derived.Test.YtcjhbcibhcogjaaUnLaw
import Derived.Deep.QuietTactic
import Derived.BigQuiet
namespace Go.Proofs.Ytcjhbcibhcogjaa
open Go.RowKit
set_option linter.unusedVariables false
set_option linter.unusedSimpArgs false

theorem rgaps_len (l : List (Int × Int)) : (rgaps l).length ≤ l.length := by
  unfold rgaps
  split
  · rw [lgaps_len]; omega
  · simp

set_option maxRecDepth 100000 in
set_option maxHeartbeats 1000000 in
theorem fill_walk (a : Option Addr) (len cap : Nat) (zs : List Int) (w : World) (h : IsRow .u8 w a len cap zs) :
    Calls Try.prog 10 #[.slice a len cap] w fun e w' => e = .returned (.bool true) ∧ Below w.heap.size w w' := by
  have H := Lib.hid h
  clear h
  by_cases hl : 1048576 < len
  · go_enter Try.func10, Try.ntmps10
    go_wp2
    go_ret
    exact ⟨rfl, Below.refl _ _⟩
  go_enter Try.func10, Try.ntmps10
  go_wp2_with fail
  refine (drawGaps_any a len cap zs w H.out).mono ?_
  rintro e w1 ⟨v, l, hl17, rfl, hb1, ho1, hn1⟩
  have B1 := Lib.hid hb1
  obtain ⟨la, lc, rfl⟩ := ownsRow_shape ho1
  have I1 := Lib.hid (Rngs.of_own ho1)
  have hrl := rgaps_len l
  obtain ⟨r, hr⟩ : ∃ r, rgaps l = r := ⟨_, rfl⟩
  rw [hr] at hrl
  have HRR := Lib.hid hr
  have hrr : (r == r) = true := by simp
  clear hb1 ho1 hn1 hr
  go_wp2_with fail
  refine (igaps_any _ l w1 I1.out (by omega)).mono ?_
  rintro e w2 ⟨v2, rfl, hb2, ho2, _⟩
  rw [HRR.out] at ho2
  obtain ⟨ra, rc, rfl⟩ := ownsRow_shape ho2
  have C2 := Lib.hid hb2
  have I2 := Lib.hid (Rngs.of_own ho2)
  clear hb2 ho2
  go_wp2_with fail
  refine (sgaps_any _ l w2 (I1.out.below C2.out) (by omega)).mono ?_
  rintro e w3 ⟨v3, rfl, hb3, ho3, _⟩
  rw [HRR.out] at ho3
  have C3 := Lib.hid (C2.out.trans (hb3.mono C2.out.size))
  have I2b := Lib.hid (I2.out.below hb3)
  have I3 := Lib.hid (Rngs.of_own ho3)
  clear hb3 ho3
  go_wp2_with fail
  refine (samerg_any _ v3 r r w3 I2b.out I3.out (by omega) (by omega)).mono ?_
  rintro e w4 ⟨rfl, hb4⟩
  rw [hrr]
  have C4 := Lib.hid (C3.out.trans (hb4.mono C3.out.size))
  have I2c := Lib.hid (I2b.out.below hb4)
  have I3b := Lib.hid (I3.out.below hb4)
  clear hb4
  go_wp2_with fail
  refine (svalid_any _ l w4 (I1.out.below C4.out) (by omega)).mono ?_
  rintro e w5 ⟨rfl, hb5⟩
  have C5 := Lib.hid (C4.out.trans (hb5.mono C4.out.size))
  have B5 := Lib.hid (B1.out.trans (C5.out.mono B1.out.size))
  have I2d := Lib.hid (I2c.out.below hb5)
  have I3c := Lib.hid (I3b.out.below hb5)
  clear hb5
  cases hv : rvalid l with
  | false =>
    clear hv
    go_wp2_with fail
    refine (samerg_any _ v3 r r w5 I2d.out I3c.out (by omega) (by omega)).mono ?_
    rintro e w6 ⟨rfl, hb6⟩
    rw [hrr]
    have B6 := Lib.hid (B5.out.trans (hb6.mono B5.out.size))
    clear hb6
    go_wp2_with fail
    go_ret
    exact ⟨rfl, B6.out⟩
  | true =>
    by_cases h0 : l = []
    · have hlen0 : ((l.length : Int) == 0) = true := by rw [h0]; rfl
      clear hv h0
      go_wp2_with fail
      refine (samerg_any _ v3 r r w5 I2d.out I3c.out (by omega) (by omega)).mono ?_
      rintro e w6 ⟨rfl, hb6⟩
      rw [hrr]
      have B6 := Lib.hid (B5.out.trans (hb6.mono B5.out.size))
      clear hb6
      go_wp2_with fail
      go_ret
      exact ⟨rfl, B6.out⟩
    · have hpos : 0 < l.length := List.length_pos_iff.2 h0
      have hlen0 : ((l.length : Int) == 0) = false := by rw [beq_eq_false_iff_ne]; omega
      obtain ⟨a', c', hac, hcc⟩ := id I1.out
      obtain ⟨g, o, hg, hc⟩ := hcc h0
      rw [hg] at hac
      injection hac with hac1 _ hac2
      subst hac1 hac2
      have hfc := (hc 0 hpos).1
      have hzc := (hc (l.length - 1) (by omega)).2
      rw [show o + 0 * 2 = o by omega] at hfc
      have HFC := Lib.hid hfc
      have HZC := Lib.hid hzc
      have hug := union_gaps hv h0
      have hre : r = lgaps l := by rw [← HRR.out]; exact rgaps_yes hv
      rw [← hre] at hug
      have HU1 := Lib.hid hug.2.1
      have hu2 := hug.2.2
      have HU2 := Lib.hid hu2
      generalize (l.getD 0 (0, 0)).1 = x at HFC HU2
      generalize (l.getD (l.length - 1) (0, 0)).2 = y at HZC HU2
      clear hc hcc hfc hzc hre hv hug hu2
      go_wp2_with fail
      refine (iunion_any _ _ l r w5 (I1.out.below C5.out) I2d.out (by omega) (by omega)).mono ?_
      rintro e w6 ⟨v6, rfl, hb6, ho6, hn6⟩
      rw [HU1.out]
      rw [HU2.out] at ho6
      have C6 := C5.out.trans (hb6.mono C5.out.size)
      have B6 := Lib.hid (B5.out.trans (hb6.mono B5.out.size))
      have f1 := (C6.cell (World.block_lt_of_cell? w1 _ HFC.out)).trans HFC.out
      have f2 := (C6.cell (World.block_lt_of_cell? w1 _ HZC.out)).trans HZC.out
      obtain ⟨a6, c6, h6a, h6c⟩ := Rngs.of_own ho6
      subst h6a
      obtain ⟨g6, o6, rfl, hc6⟩ := h6c (by simp)
      have f3 : w6.cell? ⟨g6, o6, none⟩ = some (.int .i64 x) := by simpa using (hc6 0 (by simp)).1
      have f4 : w6.cell? ⟨g6, o6 + 1, none⟩ = some (.int .i64 y) := by simpa using (hc6 0 (by simp)).2
      have t1 : ((l.length : Int) - 1).toNat = l.length - 1 := by omega
      have t2 : (0 : Int) ≤ (l.length : Int) - 1 := by omega
      have t3 : (l.length : Int) - 1 < (l.length : Int) := by omega
      have t4 : (0 : Int) < (l.length : Int) := by omega
      have v1 : IntKind.i64.wrap ((l.length : Int) - 1) = (l.length : Int) - 1 := IntWalk.i64_in _ (by omega)
      clear hb6 ho6 hn6 C6 hc6 h6c
      go_wp2_with fail
      go_quiet (fail)
      go_wp2_with fail
      go_ret
      exact ⟨rfl, below_drewN' B6.out _⟩

end Go.Proofs.Ytcjhbcibhcogjaa
