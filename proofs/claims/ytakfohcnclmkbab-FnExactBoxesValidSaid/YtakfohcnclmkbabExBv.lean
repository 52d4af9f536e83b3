/- FnExactBoxesValid. -/
import Derived.Test.YtakfohcnclmkbabExL
namespace Go.Proofs.Ytakfohcnclmkbab
open Go.RowKit
set_option linter.unusedVariables false
set_option linter.unusedSimpArgs false

set_option maxRecDepth 100000 in
set_option maxHeartbeats 4000000 in
theorem exbv_walk (a : Option Addr) (len cap : Nat) (l : List Bx) (w : World) (hl : l.length = len ∧ len ≤ 9223372036854775807) (h : Bxs w (.slice a len cap) l) (hm : ∀ b ∈ l, b.2.length ≤ 9223372036854775807 ∧ i64ok b.1) :
    Calls Try.prog 3 #[.slice a len cap] w fun e w' => e = .returned (.bool true) ∧ Below w.heap.size w w' := by
  have H := Lib.hid h
  have HSZ := Lib.hid (szbs_any _ l w h (by omega) (fun b hb => (hm b hb).1))
  have HKY := Lib.hid (fun b hb => (hm b hb).2)
  clear h hm hl
  go_enter Try.func3, Try.ntmps3
  go_wp2_with fail
  refine HSZ.out.mono ?_
  rintro e w1 ⟨n, rfl, hb1, hn⟩
  have HB1 := Lib.hid hb1
  clear hb1
  rcases hn with hn | ⟨hn, hl, hlen⟩
  · go_wp2_with fail
    go_ret
    exact ⟨rfl, HB1.out⟩
  have HTO := Lib.hid (fun W h => tobs_any (.slice a len cap) l W h hl hlen)
  have HS := Lib.hid (fun W v h => sboxes_any v l W h hl hlen)
  have HI := Lib.hid (fun W v h => iboxes_any v l W h hl hlen)
  have HEQ := Lib.hid (fun W v v' h h' => eqbs_any v v' l W h h' hl hlen)
  have hqq : (bsok l != bsok l) = false := by simp
  generalize bsok l = q at *
  clear hlen
  go_wp2_with fail
  refine (HTO.out _ (H.out.below HB1.out)).mono ?_
  rintro e w2 ⟨rfl, hb2, hf2, _⟩
  have HB2 := Lib.hid (HB1.out.trans (hb2.mono HB1.out.size))
  have HF2 := Lib.hid (hf2.bxs (c := l.length))
  clear hb2 hf2
  go_wp2_with fail
  refine (HS.out _ _ HF2.out).mono ?_
  rintro e w3 ⟨rfl, hb3⟩
  have HB3 := Lib.hid (HB2.out.trans (hb3.mono HB2.out.size))
  clear hb3
  go_wp2_with fail
  refine (HTO.out _ (H.out.below HB3.out)).mono ?_
  rintro e w4 ⟨rfl, hb4, hf4, _⟩
  have HB4 := Lib.hid (HB3.out.trans (hb4.mono HB3.out.size))
  have HF4 := Lib.hid (hf4.bxs (c := l.length))
  clear hb4 hf4
  go_wp2_with fail
  refine (HI.out _ _ HF4.out).mono ?_
  rintro e w5 ⟨rfl, hb5⟩
  have HB5 := Lib.hid (HB4.out.trans (hb5.mono HB4.out.size))
  have HF5 := Lib.hid (HF4.out.below hb5)
  clear hb5
  go_wp2_with fail
  refine (HTO.out _ (H.out.below HB5.out)).mono ?_
  rintro e w6 ⟨rfl, hb6, hf6, _⟩
  have HB6 := Lib.hid (HB5.out.trans (hb6.mono HB5.out.size))
  have HF6 := Lib.hid (HF5.out.below hb6)
  have HG6 := Lib.hid (hf6.bxs (c := l.length))
  clear hb6 hf6
  go_wp2_with fail
  refine (HEQ.out _ _ _ HF6.out HG6.out).mono ?_
  rintro e w7 ⟨rfl, hb7⟩
  have HB7 := Lib.hid (HB6.out.trans (hb7.mono HB6.out.size))
  clear hb7
  go_wp2_with fail
  go_ret
  exact ⟨rfl, HB7.out⟩
end Go.Proofs.Ytakfohcnclmkbab
