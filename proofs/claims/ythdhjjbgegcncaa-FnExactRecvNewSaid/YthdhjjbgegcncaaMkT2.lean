/- markText. -/
import Derived.Test.YthdhjjbgegcncaaCv1
import Derived.IntWalk
import Derived.Laws.BytesArg
import Derived.Handy
namespace Go.Proofs.Ythdhjjbgegcncaa
open Go.RowKit
set_option linter.unusedVariables false
set_option linter.unusedSimpArgs false

def mtG : Nat → Int → ByteArray → ByteArray
  | 0, _, acc => acc
  | n + 1, k, acc => if k ≤ 0 then acc else mtG n (k / 10) (strOfNums [48 + k % 10] ++ acc)
def mtS (k : Int) : ByteArray := ⟨#[109]⟩ ++ mtG 40 k ⟨#[]⟩
set_option maxRecDepth 100000 in
set_option maxHeartbeats 1000000 in
theorem mt_any (k : Int) (w : World) (h0 : 1 ≤ k) (h1 : k ≤ 1000000000) : Calls Try.prog 50 #[.int .i64 k] w fun e w' => e = .returned (.string (mtS k)) ∧ Below w.heap.size w w' := by
  have hk : ¬ k ≤ 0 := by omega
  go_enter Try.func50, Try.ntmps50
  go_wp2_with fail
  go_loopw [0, 3] (fun kv ov wr => ∃ (n : Nat) (q : Int) (acc : ByteArray), kv = .int .i64 q ∧ ov = .string acc ∧ (0 ≤ q ∧ q < 2 ^ n) ∧ q ≤ 1000000000 ∧ n ≤ 40 ∧ acc.size + n ≤ 40 ∧ Hid (⟨#[109]⟩ ++ mtG n q acc = mtS k) ∧ Hid (Below w.heap.size w wr)) (fun kv _ _ => (intOf kv).toNat)
  case atStart => exact ⟨40, k, ⟨#[]⟩, rfl, rfl, by omega, by omega, Nat.le_refl _, by show 0 + 40 ≤ 40; omega, rfl, Below.refl _ _⟩
  case round =>
    obtain ⟨n, q, acc, rfl, rfl, ⟨q0, q1⟩, q2, hn, ha, HM, HB⟩ := hrel
    by_cases hq : 0 < q
    · cases n with
      | zero => exfalso; simp at q1; omega
      | succ n =>
        have hrec : Hid (⟨#[109]⟩ ++ mtG n (q / 10) (strOfNums [48 + q % 10] ++ acc) = mtS k) := Lib.hid (by
          have := HM.out
          rw [mtG, if_neg (by omega)] at this
          exact this)
        have hp : q / 10 < 2 ^ n := by
          have : (2 : Int) ^ (n + 1) = 2 * 2 ^ n := by rw [Int.pow_succ]; omega
          omega
        have hsz : (strOfNums [48 + q % 10]).size = 1 := strOfNums_size _
        have v1 : IntKind.i64.wrap (48 + q % 10) = 48 + q % 10 := IntWalk.i64_in _ (by omega)
        have v2 : IntKind.u8.wrap (48 + q % 10) = 48 + q % 10 := IntWalk.u8_in _ (by omega)
        have hcat : ¬ 9223372036854775807 < 1 + acc.size := by omega
        have cv := conv1
        go_wp2_with fail
        exact ⟨⟨n, q / 10, strOfNums [48 + q % 10] ++ acc, rfl, rfl, ⟨by omega, hp⟩, by omega, by omega, by simp only [ByteArray.size_append]; omega, hrec, HB.out.alloc HB.out.size _⟩, by simp [intOf]; omega⟩
    · have hz : Hid (⟨#[109]⟩ ++ acc = mtS k) := Lib.hid (by
        have := HM.out
        cases n with
        | zero => exact this
        | succ n => rw [mtG, if_pos (by omega)] at this; exact this)
      have hcat : ¬ 9223372036854775807 < 1 + acc.size := by omega
      go_wp2_with fail
      go_ret
      exact ⟨ret_str hz.out, HB.out⟩
end Go.Proofs.Ythdhjjbgegcncaa
