/- Chapter 31, the program's intervals: from. -/
import Derived.Test.YthdhjjbgegcncaaIvA
namespace Go.Proofs.Ythdhjjbgegcncaa
open Go.RowKit
set_option linter.unusedVariables false
set_option linter.unusedSimpArgs false

/-- What a call that makes an interval answers. -/
def GotIv (w : World) (q : Qc) (e : Ending) (w' : World) : Prop := ∃ v, e = .returned (.agg #[.int .i64 q.1, v]) ∧ Below w.heap.size w w' ∧ Byt w' v q.2
set_option maxRecDepth 100000 in
set_option maxHeartbeats 4000000 in
theorem ifrom_any (x off : Int) (v : Value) (d : ByteArray) (w : World) (h : Byt w v d) (h1 : -1000000000 ≤ x ∧ x ≤ 1000000000) (h2 : d.size ≤ 1000000000) (h3 : -1000000000 ≤ off ∧ off ≤ 1000000000) :
    Calls Try.prog 44 #[.agg #[.int .i64 x, v], .int .i64 off] w (GotIv w (cut (x, d) off)) := by
  obtain ⟨k, hk⟩ : ∃ k, skp (x, d) off = k := ⟨_, rfl⟩
  have hk1 := skp_le (x, d) off
  rw [hk] at hk1
  simp only at hk1
  have hkd : k = min (off - x).toNat d.size := by rw [← hk]; rfl
  unfold GotIv
  rw [show (cut (x, d) off).1 = x + (k : Int) by rw [← hk]; rfl, show (cut (x, d) off).2 = d.extract k d.size by rw [← hk]; rfl]
  have hmin : min (max (off - x) 0) (d.size : Int) = (k : Int) := by omega
  have H := Lib.hid h
  obtain ⟨g, o, c, C, m, rfl, hc, hh, hd⟩ := h
  have hw1 : IntKind.i64.wrap (off - x) = off - x := IntWalk.i64_in _ (by omega)
  have hw2 : IntKind.i64.wrap (x + (k : Int)) = x + (k : Int) := IntWalk.i64_in _ (by omega)
  have HM := Lib.hid hmin
  have HC := Lib.hid hc
  clear hh hd hk hkd hmin
  go_enter Try.func44, Try.ntmps44
  go_wp2_with fail
  go_region
  rw [HM.out, Int.toNat_natCast]
  obtain ⟨A, hA⟩ : ∃ A, (if c = k then some (⟨g, o, none⟩ : Addr) else some ⟨g, o + k, none⟩) = A := ⟨_, rfl⟩
  rw [hA]
  have hA2 : (A = some ⟨g, o + k, none⟩) ∨ (k = d.size ∧ ∃ o', A = some ⟨g, o', none⟩) := by
    rw [← hA]
    split
    · exact .inr ⟨by omega, o, rfl⟩
    · exact .inl rfl
  have B0 := Lib.hid ((((Below.refl w.heap.size w).alloc (Nat.le_refl _) (.cells #[.int .i64 x, .slice (some ⟨g, o, none⟩) d.size c] 55)).alloc (by simp) (.cells #[.int .i64 (x + (k : Int)), .slice A (d.size - k) (c - k)] 55)).drew)
  have R := Lib.hid (H.out.below (B0.out))
  have F : Hid (Frm ((w.alloc (.cells #[.int .i64 x, .slice (some ⟨g, o, none⟩) d.size c] 55)).alloc (.cells #[.int .i64 (x + (k : Int)), .slice A (d.size - k) (c - k)] 55)).drew (w.heap.size + 1) [.int .i64 (x + (k : Int)), .slice A (d.size - k) (c - k)]) := Lib.hid (by
    intro i

    simp)
  have RC := Lib.hid (R.out.cut (k := k) (c' := c - k) hk1 hA2 (by have := HC.out; omega))
  clear hA hA2 HM R
  have f0 := F.out 0
  have f1 := F.out 1
  clear F
  generalize ((w.alloc (.cells #[.int .i64 x, .slice (some ⟨g, o, none⟩) d.size c] 55)).alloc (.cells #[.int .i64 (x + (k : Int)), .slice A (d.size - k) (c - k)] 55)).drew = W at *
  go_wp2_with fail
  refine bodyPost_ret (v := .agg #[.int .i64 (x + (k : Int)), .slice A (d.size - k) (c - k)]) ?hr rfl ?_
  case hr => rw [results_cell_one rfl]; go_simp
  exact ⟨_, rfl, B0.out, RC.out⟩
end Go.Proofs.Ythdhjjbgegcncaa
