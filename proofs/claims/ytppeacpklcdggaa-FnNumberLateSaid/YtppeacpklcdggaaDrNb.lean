/- The drawn arguments of NumberBits and NumberTruncate. -/
import Derived.Test.YtppeacpklcdggaaFull
namespace Go.Proofs.Ytppeacpklcdggaa
open Go.RowKit
set_option linter.unusedVariables false
set_option linter.unusedSimpArgs false

theorem wr64 (n : Int) (h0 : -1000000000000 ≤ n) (h1 : n ≤ 1000000000000) : wrap64 n = n := by unfold wrap64; omega
def GotTwo (P : Int → Int → Prop) (w : World) (e : Ending) (w' : World) : Prop :=
  ∃ x y : Int, P x y ∧ e = .returned (.tuple #[.int .i64 x, .int .i64 y]) ∧ Below w.heap.size w w'
theorem below_reader {w w1 w2 : World} (hb : Below w.heap.size w w1) (hg : w1.grownBy w2 (some w.heap.size)) : Below w.heap.size w w2 :=
  hb.grown hg hb.size (fun j hj => by injection hj with hj; omega)

set_option maxRecDepth 100000 in
set_option maxHeartbeats 800000 in
theorem drawNBits_any (a : Option Addr) (len cap : Nat) (zs : List Int) (w : World) (h : IsRow .u8 w a len cap zs) :
    Calls Try.prog 14 #[.slice a len cap] w (GotTwo (fun x y => (-1 ≤ x ∧ x ≤ 1000) ∧ -2 ≤ y ∧ y ≤ 1000) w) := by
  have H := Lib.hid h
  clear h
  go_enter Try.func14, Try.ntmps14
  go_wp2_with fail
  refine (open_any a len cap zs w H.out).mono ?_
  rintro e w1 ⟨rfl, hb, hR⟩
  have B1 := Lib.hid hb
  clear hb
  go_wp2_with fail
  refine (full_any _ 0 _ hR (by omega)).mono ?_
  rintro e w2 ⟨n, ⟨hn0, hn1⟩, rfl, hg2, hR2⟩
  have G2 := Lib.hid hg2
  clear hg2
  go_wp2_with fail
  refine (pick_rdr _ _ _ _ hR2 (by omega) (by omega) (by omega)).mono ?_
  rintro e w3 ⟨x, hx, rfl, hg3, hR3⟩
  have G3 := Lib.hid (G2.out.trans hg3)
  clear hg3
  go_wp2_with fail
  refine (pick_rdr _ _ _ _ hR3 (by omega) (by omega) (by omega)).mono ?_
  rintro e w4 ⟨y, hy, rfl, hg4, hR4⟩
  have G4 := Lib.hid (G3.out.trans hg4)
  clear hg4
  go_wp2_with fail
  refine (pick_rdr _ _ _ _ hR4 (by omega) (by omega) (by omega)).mono ?_
  rintro e w5 ⟨z, hz, rfl, hg5, hR5⟩
  have HB := Lib.hid (below_reader B1.out (G4.out.trans hg5))
  clear hg5
  obtain ⟨p, hp⟩ : ∃ p : Int, (x : Int) * (y : Int) = p := ⟨_, rfl⟩
  have hp0 : 0 ≤ p ∧ p < 250 := by
    have : x = 0 ∨ x = 1 := by omega
    rcases this with rfl | rfl
    · simp at hp; omega
    · simp at hp; omega
  have q2 : wrap64 ((x : Int) * (y : Int)) = p := by rw [hp]; exact wr64 _ (by omega) (by omega)
  have q3 : wrap64 (n - 1 - p) = n - 1 - p := wr64 _ (by omega) (by omega)
  have q4 : wrap64 (n - 1 - p - (z : Int)) = n - 1 - p - (z : Int) := wr64 _ (by omega) (by omega)
  by_cases hm : n - 1 - p - (z : Int) < -2
  · have hm2 : ¬ -2 ≤ n - 1 - p - (z : Int) := by omega
    clear hp hx hy hR hR2 hR3 hR4 hR5
    go_wp2_with fail
    go_ret2
    exact ⟨_, _, ⟨⟨hn0, hn1⟩, by omega, by omega⟩, rfl, HB.out⟩
  · clear hp hx hy hR hR2 hR3 hR4 hR5
    go_wp2_with fail
    go_ret2
    exact ⟨_, _, ⟨⟨hn0, hn1⟩, by omega, by omega⟩, rfl, HB.out⟩

set_option maxRecDepth 100000 in
set_option maxHeartbeats 800000 in
theorem drawNTrunc_any (a : Option Addr) (len cap : Nat) (zs : List Int) (w : World) (h : IsRow .u8 w a len cap zs) :
    Calls Try.prog 19 #[.slice a len cap] w (GotTwo (fun x y => (-1 ≤ x ∧ x ≤ 1000) ∧ 0 ≤ y ∧ y ≤ 17) w) := by
  have H := Lib.hid h
  clear h
  go_enter Try.func19, Try.ntmps19
  go_wp2_with fail
  refine (open_any a len cap zs w H.out).mono ?_
  rintro e w1 ⟨rfl, hb, hR⟩
  have B1 := Lib.hid hb
  clear hb
  go_wp2_with fail
  refine (full_any _ 0 _ hR (by omega)).mono ?_
  rintro e w2 ⟨n, ⟨hn0, hn1⟩, rfl, hg2, hR2⟩
  have G2 := Lib.hid hg2
  clear hg2
  go_wp2_with fail
  refine (pick_rdr _ _ _ _ hR2 (by omega) (by omega) (by omega)).mono ?_
  rintro e w3 ⟨x, hx, rfl, hg3, hR3⟩
  have HB := Lib.hid (below_reader B1.out (G2.out.trans hg3))
  clear hg3
  go_wp2_with fail
  go_ret2
  exact ⟨_, _, ⟨⟨hn0, hn1⟩, by omega, by omega⟩, rfl, HB.out⟩

end Go.Proofs.Ytppeacpklcdggaa
