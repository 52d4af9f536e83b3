/- Chapter 1: encodings are ordered like integers (plain bytes). -/
import Derived.Test.YtfppnaaofkicaaaMath
namespace Go.Proofs.Ytfppnaaofkicaaa
open Go.RowKit
set_option linter.unusedVariables false
set_option linter.unusedSimpArgs false

def u8o (a : Int) : UInt8 := UInt8.ofNat a.toNat
theorem encS_list (n : Int) : (encS n).toList = (encN n).map u8o := by
  rw [_root_.Go.ByteArray.toList_eq]; rfl
theorem u8o_nat (a : Int) (h0 : 0 ≤ a) (h1 : a < 256) : (u8o a).toNat = a.toNat := by
  unfold u8o; rw [UInt8.toNat_ofNat']; omega
theorem less_iff (a b : Int) (x y : List UInt8) (a0 : 0 ≤ a) (a1 : a < 256) (b0 : 0 ≤ b) (b1 : b < 256) :
    Op.bytesLess (u8o a :: x) (u8o b :: y) = true ↔ a < b ∨ (a = b ∧ Op.bytesLess x y = true) := by
  have ha := u8o_nat a a0 a1
  have hb := u8o_nat b b0 b1
  rw [Op.bytesLess, Bool.or_eq_true, Bool.and_eq_true, decide_eq_true_eq, beq_iff_eq, UInt8.lt_iff_toNat_lt, ← UInt8.toNat_inj]
  constructor
  · rintro (h | ⟨h, k⟩)
    · left; omega
    · right; exact ⟨by omega, k⟩
  · rintro (h | ⟨h, k⟩)
    · left; omega
    · right; exact ⟨by omega, k⟩
theorem less_nil (x : List UInt8) : (Op.bytesLess x [] = true) ↔ False := by cases x <;> simp [Op.bytesLess]
theorem less_nil_cons (b : UInt8) (y : List UInt8) : (Op.bytesLess [] (b :: y) = true) ↔ True := by simp [Op.bytesLess]

theorem less_enc (m n : Int) (hm : vlen m ≠ 0) (hn : vlen n ≠ 0) : Op.bytesLess (encS m).toList (encS n).toList = decide (m < n) := by
  rw [Bool.eq_iff_iff, decide_eq_true_eq, encS_list, encS_list]
  rcases vlen_cases m with h | h | h | h
  · exact absurd h hm
  · obtain ⟨m0, m1⟩ := vlen_1 h
    rw [encN_1 h]
    rcases vlen_cases n with k | k | k | k
    · exact absurd k hn
    · obtain ⟨n0, n1⟩ := vlen_1 k
      rw [encN_1 k]; simp only [List.map_cons, List.map_nil]
      rw [less_iff _ _ _ _ (by omega) (by omega) (by omega) (by omega), less_nil]; simp only [and_false, or_false]; try omega
    · obtain ⟨n0, n1⟩ := vlen_2 k
      rw [encN_2 k]; simp only [List.map_cons, List.map_nil]
      rw [less_iff _ _ _ _ (by omega) (by omega) (by omega) (by omega), less_nil_cons]; simp only [and_true]; try omega
    · obtain ⟨n0, n1⟩ := vlen_4 k
      rw [encN_4 k]; simp only [List.map_cons, List.map_nil]
      rw [less_iff _ _ _ _ (by omega) (by omega) (by omega) (by omega), less_nil_cons]; simp only [and_true]; try omega
  · obtain ⟨m0, m1⟩ := vlen_2 h
    rw [encN_2 h]
    rcases vlen_cases n with k | k | k | k
    · exact absurd k hn
    · obtain ⟨n0, n1⟩ := vlen_1 k
      rw [encN_1 k]; simp only [List.map_cons, List.map_nil]
      rw [less_iff _ _ _ _ (by omega) (by omega) (by omega) (by omega), less_nil]; simp only [and_false, or_false]; try omega
    · obtain ⟨n0, n1⟩ := vlen_2 k
      rw [encN_2 k]; simp only [List.map_cons, List.map_nil]
      rw [less_iff _ _ _ _ (by omega) (by omega) (by omega) (by omega), less_iff _ _ _ _ (by omega) (by omega) (by omega) (by omega), less_nil]; simp only [and_false, or_false]; try omega
    · obtain ⟨n0, n1⟩ := vlen_4 k
      rw [encN_4 k]; simp only [List.map_cons, List.map_nil]
      rw [less_iff _ _ _ _ (by omega) (by omega) (by omega) (by omega), less_iff _ _ _ _ (by omega) (by omega) (by omega) (by omega), less_nil_cons]; simp only [and_true]; try omega
  · obtain ⟨m0, m1⟩ := vlen_4 h
    rw [encN_4 h]
    rcases vlen_cases n with k | k | k | k
    · exact absurd k hn
    · obtain ⟨n0, n1⟩ := vlen_1 k
      rw [encN_1 k]; simp only [List.map_cons, List.map_nil]
      rw [less_iff _ _ _ _ (by omega) (by omega) (by omega) (by omega), less_nil]; simp only [and_false, or_false]; try omega
    · obtain ⟨n0, n1⟩ := vlen_2 k
      rw [encN_2 k]; simp only [List.map_cons, List.map_nil]
      rw [less_iff _ _ _ _ (by omega) (by omega) (by omega) (by omega), less_iff _ _ _ _ (by omega) (by omega) (by omega) (by omega), less_nil]; simp only [and_false, or_false]; try omega
    · obtain ⟨n0, n1⟩ := vlen_4 k
      rw [encN_4 k]; simp only [List.map_cons, List.map_nil]
      rw [less_iff _ _ _ _ (by omega) (by omega) (by omega) (by omega), less_iff _ _ _ _ (by omega) (by omega) (by omega) (by omega), less_iff _ _ _ _ (by omega) (by omega) (by omega) (by omega), less_iff _ _ _ _ (by omega) (by omega) (by omega) (by omega), less_nil]; simp only [and_false, or_false]; try omega

end Go.Proofs.Ytfppnaaofkicaaa
