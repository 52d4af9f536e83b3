/- The contract of sampleNumbers: some numbers in new memory. -/
import Derived.Test.YtcjhbcibhcogjaaInts
namespace Go.Proofs.Ytcjhbcibhcogjaa
open Go.RowKit
set_option linter.unusedVariables false
set_option linter.unusedSimpArgs false

def GotNums (w : World) (e : Ending) (w' : World) : Prop :=
  ∃ (v : Value) (ns : List Int), ns.length ≤ 70 ∧ e = .returned v ∧ Below w.heap.size w w' ∧ Ints w' v ns ∧ v ≠ .slice none 0 0

set_option maxRecDepth 100000 in
set_option maxHeartbeats 1000000 in
theorem samp_any (w : World) : Calls Try.prog 19 #[] w (GotNums w) := by
  obtain ⟨i0, hi, hz0, hz1, hz2⟩ := info_parts try_infoInt
  have HI := Lib.hid hi
  clear hi
  go_enter Try.func19, Try.ntmps19
  go_wp2_with fail
  have O0 := Lib.hid (show (w.alloc (.cells #[.int .i64 (-1), .int .i64 999, .int .i64 1000, .int .i64 1001] 3)).ownsRow w.heap.size 3 1 (.slice (some ⟨w.heap.size, 0, none⟩) 4 4) ([-1, 999, 1000, 1001] : List Int).length (([-1, 999, 1000, 1001] : List Int).map (Value.int .i64)) from
    ⟨rfl, .inr ⟨w.heap.size, 4, _, rfl, Nat.le_refl _, by show (w.heap.push _)[w.heap.size]? = _; simp; rfl, Nat.le_refl _, by unfold maxLen; omega, rfl, rfl⟩⟩)
  go_loopw [1, 2] (fun ov iv wr => ∃ (k : Nat) (ns : List Int), k ≤ 61 ∧ iv = .int .i64 k ∧ Hid (ns.length = 4 + k) ∧ wr.ownsRow w.heap.size 3 1 ov ns.length (ns.map (Value.int .i64)) ∧ Below w.heap.size w wr ∧ ov ≠ .slice none 0 0) (fun _ iv _ => 61 - (intOf iv).toNat)
  case atStart => exact ⟨0, [-1, 999, 1000, 1001], by omega, rfl, rfl, O0.out, (Below.refl _ _).alloc (Nat.le_refl _) _, by simp⟩
  case round =>
    obtain ⟨k, ns, hk, rfl, HL, hown, hbel, hnn⟩ := hrel
    have HO := Lib.hid hown
    have HB := Lib.hid hbel
    have HN := Lib.hid hnn
    have hnl : ns.length ≤ 65 := by have := HL.out; omega
    clear hown hbel hnn
    obtain ⟨la, lc, rfl⟩ := ownsRow_shape HO.out
    by_cases hlt : k ≤ 60
    · have hlt' : (k : Int) ≤ 60 := by omega
      go_wp2_with (at_builtin; refine hold ?_)
      refine unhold ?_
      refine wpList_append_own (w := wr.alloc (.cells #[.int .i64 (k : Int)] 3)) rfl (.tmp 8) (.tmp 10) 29 rfl w.heap.size 3 i0 (.int .i64 0) 1 8 Try.underlying29 HI.out hz0 hz1 hz2 rfl (by decide) _ _ _ rfl (World.ownsRow.alloc HO.out _) ⟨wr.heap.size, 0, none⟩ 1 1 [.int .i64 (k : Int)] rfl rfl (cell_one_new _ _ _) ?A0 ?Aa ?Ab ?Ac ?_
      case A0 => intro u hu; simp at hu; subst hu; rfl
      case Aa => unfold maxLen; omega
      case Ab => omega
      case Ac => have := HB.out.size; simp; omega
      intro v' w2 hown2 hgrow hiff
      have HO2 := Lib.hid hown2
      have HB2 := Lib.hid (below_own HB.out HO.out HB.out.size hgrow)
      have HN2 := Lib.hid (fun e => HN.out (hiff.1 e).1 : v' ≠ .slice none 0 0)
      clear hown2 hgrow hiff
      go_wp2_with fail
      go_roundw
      case rel => exact ⟨k + 1, ns ++ [(k : Int)], by omega, by go_num, (by show _ = _; rw [List.length_append, HL.out]; simp; omega), by simpa using HO2.out, HB2.out, HN2.out⟩
      case measure => simp [intOf]; omega
    · have hlt' : ¬ (k : Int) ≤ 60 := by omega
      go_wp2_with (at_builtin; refine hold ?_)
      refine unhold ?_
      refine wpList_append_own (w := wr.alloc (.cells #[.int .i64 997, .int .i64 998] 3)) rfl (.tmp 12) (.tmp 13) 29 rfl w.heap.size 3 i0 (.int .i64 0) 1 8 Try.underlying29 HI.out hz0 hz1 hz2 rfl (by decide) _ _ _ rfl (World.ownsRow.alloc HO.out _) ⟨wr.heap.size, 0, none⟩ 2 2 [.int .i64 997, .int .i64 998] rfl rfl (cell_two_new _ _ _ _) ?B0 ?Ba ?Bb ?Bc ?_
      case B0 => intro u hu; simp at hu; rcases hu with rfl | rfl <;> rfl
      case Ba => unfold maxLen; omega
      case Bb => omega
      case Bc => have := HB.out.size; simp; omega
      intro v' w2 hown2 hgrow hiff
      have HB2 := Lib.hid (below_own HB.out HO.out HB.out.size hgrow)
      have HN2 := Lib.hid (fun e => HN.out (hiff.1 e).1 : v' ≠ .slice none 0 0)
      have I2 := Lib.hid (Ints.of_own (xs := ns ++ [997, 998]) (by simpa using hown2))
      clear hown2 hgrow hiff
      go_wp2_with fail
      go_ret
      exact ⟨_, _, by simp; omega, rfl, HB2.out, I2.out, HN2.out⟩

end Go.Proofs.Ytcjhbcibhcogjaa
