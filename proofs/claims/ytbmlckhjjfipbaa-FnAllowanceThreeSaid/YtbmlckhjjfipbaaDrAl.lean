/- The drawn arguments of SendAllowance. -/
import Derived.Test.YtbmlckhjjfipbaaDrTk
import Derived.Below
import Derived.IntWalk
import Derived.OwnWalk
namespace Go.Proofs.Ytbmlckhjjfipbaa
open Go.RowKit
set_option linter.unusedVariables false
set_option linter.unusedSimpArgs false

theorem recv_at (u : Int) (hu : 0 ≤ u ∧ u < 250) (y : Nat) (hy : (y : Int) < 8) : ∃ v : Int, -1 ≤ v ∧ v ≤ 10000 ∧ (#[.int .i64 (-1), .int .i64 0, .int .i64 1, .int .i64 100, .int .i64 3333, .int .i64 9999, .int .i64 10000, .int .i64 u] : Array Value)[y]? = some (.int .i64 v) := by
  have hy' : y < 8 := by omega
  match y, hy' with
  | 0, _ => exact ⟨-1, by omega, by omega, rfl⟩
  | 1, _ => exact ⟨0, by omega, by omega, rfl⟩
  | 2, _ => exact ⟨1, by omega, by omega, rfl⟩
  | 3, _ => exact ⟨100, by omega, by omega, rfl⟩
  | 4, _ => exact ⟨3333, by omega, by omega, rfl⟩
  | 5, _ => exact ⟨9999, by omega, by omega, rfl⟩
  | 6, _ => exact ⟨10000, by omega, by omega, rfl⟩
  | 7, _ => exact ⟨u, by omega, by omega, rfl⟩
theorem sent_at (x y1 u z : Int) (hx : -3 ≤ x ∧ x ≤ 30000) (hy1 : -4 ≤ y1 ∧ y1 ≤ 30000) (hu : 0 ≤ u ∧ u < 250) (hz : 9900 ≤ z ∧ z < 9990) (y : Nat) (hy : (y : Int) < 8) : ∃ v : Int, -40000 ≤ v ∧ v ≤ 40000 ∧ (#[.int .i64 (-1), .int .i64 0, .int .i64 x, .int .i64 y1, .int .i64 9999, .int .i64 10000, .int .i64 u, .int .i64 z] : Array Value)[y]? = some (.int .i64 v) := by
  have hy' : y < 8 := by omega
  match y, hy' with
  | 0, _ => exact ⟨-1, by omega, by omega, rfl⟩
  | 1, _ => exact ⟨0, by omega, by omega, rfl⟩
  | 2, _ => exact ⟨x, by omega, by omega, rfl⟩
  | 3, _ => exact ⟨y1, by omega, by omega, rfl⟩
  | 4, _ => exact ⟨9999, by omega, by omega, rfl⟩
  | 5, _ => exact ⟨10000, by omega, by omega, rfl⟩
  | 6, _ => exact ⟨u, by omega, by omega, rfl⟩
  | 7, _ => exact ⟨z, by omega, by omega, rfl⟩

def GotAl (w : World) (e : Ending) (w' : World) : Prop :=
  ∃ (r s : Int) (v : Bool), ((-1 ≤ r ∧ r ≤ 10000) ∧ -40000 ≤ s ∧ s ≤ 40000) ∧ e = .returned (.tuple #[.int .i64 r, .int .i64 s, .bool v]) ∧ Below w.heap.size w w'
set_option maxRecDepth 100000 in
set_option maxHeartbeats 800000 in
theorem drawAl_any (a : Option Addr) (len cap : Nat) (zs : List Int) (w : World) (h : IsRow .u8 w a len cap zs) :
    Calls Try.prog 13 #[.slice a len cap] w (GotAl w) := by
  have H := Lib.hid h
  clear h
  go_enter Try.func13, Try.ntmps13
  go_wp2_with fail
  refine (open_any a len cap zs w H.out).mono ?_
  rintro e w1 ⟨rfl, hb, hR⟩
  have B1 := Lib.hid hb
  clear hb
  go_wp2_with fail
  refine (pick_rdr _ _ _ _ hR (by omega) (by omega) (by omega)).mono ?_
  rintro e w2 ⟨u, hu, rfl, hg2, hR2⟩
  have G2 := Lib.hid hg2
  clear hg2
  have hb2 := hR2.1
  have g3 := World.grownBy_alloc w2 (.cells #[.int .i64 (-1), .int .i64 0, .int .i64 1, .int .i64 100, .int .i64 3333, .int .i64 9999, .int .i64 10000, .int .i64 u] 3) (some w.heap.size)
  have hR3 : Rdr (w2.alloc (.cells #[.int .i64 (-1), .int .i64 0, .int .i64 1, .int .i64 100, .int .i64 3333, .int .i64 9999, .int .i64 10000, .int .i64 u] 3)) w.heap.size _ := hR2.below ((Below.refl _ _).alloc (Nat.le_refl _) _)
  have G3 := Lib.hid (G2.out.trans g3)
  clear g3
  go_wp2_with fail
  refine (pick_rdr _ _ _ _ hR3 (by omega) (by omega) (by omega)).mono ?_
  rintro e w3 ⟨y, hy, rfl, hg4, hR4⟩
  have G4 := Lib.hid (G3.out.trans hg4)
  obtain ⟨r, hr0, hr1, hv⟩ := recv_at u ⟨by omega, hu⟩ y hy
  rw [← World.cell?_alloc_mark w2 #[.int .i64 (-1), .int .i64 0, .int .i64 1, .int .i64 100, .int .i64 3333, .int .i64 9999, .int .i64 10000, .int .i64 u] 3 (0, 0) y] at hv
  have hc := hg4.cell hv (by simp; omega)
  clear hv hg4
  go_wp2_with fail
  refine (pick_rdr _ _ _ _ hR4 (by omega) (by omega) (by omega)).mono ?_
  rintro e w4 ⟨u2, hu2, rfl, hg5, hR5⟩
  have G5 := Lib.hid (G4.out.trans hg5)
  clear hg5
  go_wp2_with fail
  refine (pick_rdr _ _ _ _ hR5 (by omega) (by omega) (by omega)).mono ?_
  rintro e w5 ⟨z, hz, rfl, hg6, hR6⟩
  have G6 := Lib.hid (G5.out.trans hg6)
  clear hg6 hc
  have hb5 := hR6.1
  have g7 := World.grownBy_alloc w5 (.cells #[.int .i64 (-1), .int .i64 0, .int .i64 (3 * r), .int .i64 (3 * r - 1), .int .i64 9999, .int .i64 10000, .int .i64 u2, .int .i64 (9900 + (z : Int))] 3) (some w.heap.size)
  have hR7 : Rdr (w5.alloc (.cells #[.int .i64 (-1), .int .i64 0, .int .i64 (3 * r), .int .i64 (3 * r - 1), .int .i64 9999, .int .i64 10000, .int .i64 u2, .int .i64 (9900 + (z : Int))] 3)) w.heap.size _ := hR6.below ((Below.refl _ _).alloc (Nat.le_refl _) _)
  have G7 := Lib.hid (G6.out.trans g7)
  clear g7
  clear hR hR2 hR3 hR4 hR5 hR6 G2 G3 G4 G5 G6 hb2
  go_wp2_with fail
  refine (pick_rdr _ _ _ _ hR7 (by omega) (by omega) (by omega)).mono ?_
  rintro e w6 ⟨x, hx, rfl, hg8, hR8⟩
  have G8 := Lib.hid (G7.out.trans hg8)
  obtain ⟨s, hs0, hs1, hv⟩ := sent_at (3 * r) (3 * r - 1) u2 (9900 + (z : Int)) ⟨by omega, by omega⟩ ⟨by omega, by omega⟩ ⟨by omega, hu2⟩ ⟨by omega, by omega⟩ x hx
  rw [← World.cell?_alloc_mark w5 #[.int .i64 (-1), .int .i64 0, .int .i64 (3 * r), .int .i64 (3 * r - 1), .int .i64 9999, .int .i64 10000, .int .i64 u2, .int .i64 (9900 + (z : Int))] 3 (0, 0) x] at hv
  have hc := hg8.cell hv (by simp; omega)
  clear hv hg8 hR7
  go_wp2_with fail
  refine (pick_rdr _ _ _ _ hR8 (by omega) (by omega) (by omega)).mono ?_
  rintro e w7 ⟨q, hq, rfl, hg9, hR9⟩
  have HB := Lib.hid (below_reader B1.out (G8.out.trans hg9))
  clear hg9 hR8 hR9 hc
  go_wp2_with fail
  go_ret3
  exact ⟨_, _, _, ⟨⟨hr0, hr1⟩, hs0, hs1⟩, rfl, HB.out⟩


end Go.Proofs.Ytbmlckhjjfipbaa
