/- FnExactFramesEncode. -/
import Derived.Test.YthflokonihegbabToFs
import Derived.Test.YthflokonihegbabEqFs
import Derived.Test.YthflokonihegbabIFs
namespace Go.Proofs.Ythflokonihegbab
open Go.RowKit
set_option linter.unusedVariables false
set_option linter.unusedSimpArgs false

set_option maxRecDepth 100000 in
set_option maxHeartbeats 2000000 in
theorem exfs_walk (a : Option Addr) (len cap : Nat) (l : List Fr) (w : World) (hl : l.length = len ∧ len ≤ 9223372036854775807) (h : Frs w (.slice a len cap) l) (hlen : ∀ f ∈ l, f.rs.length ≤ 9223372036854775807 ∧ f.d.size ≤ maxLen) :
    Calls Try.prog 6 #[.slice a len cap] w fun e w' => e = .returned (.bool true) ∧ Below w.heap.size w w' := by
  have H := Lib.hid h
  have HSZ := Lib.hid (szfs_any _ l w h (by omega) hlen)
  clear h hlen hl
  go_enter Try.func6, Try.ntmps6
  go_wp2_with fail
  refine HSZ.out.mono ?_
  rintro e w1 ⟨n, rfl, hb1, hn⟩
  have HB1 := Lib.hid hb1
  clear hb1
  rcases hn with hn | ⟨hn, hl, hlen⟩
  · go_wp2_with fail
    go_ret
    exact ⟨rfl, HB1.out⟩
  have HTO := Lib.hid (fun W h => tofs_any (.slice a len cap) l W h hl hlen)
  have hlen2 : ∀ f ∈ l, f.rs.length ≤ 1048576 ∧ f.d.size ≤ 2097152 := fun f hf => by have := hlen f hf; unfold FrS at this; omega
  have HS := Lib.hid (fun W v h => sfsenc_any v l W h hl hlen2)
  have HI := Lib.hid (fun W v h => ifsenc_any v l W h hl hlen2)
  have HEQ := Lib.hid (fun W v v' h h' => eqfs_any v v' l W h h' hl hlen2)
  unfold FsPost at HS HI
  generalize (if fsok l = true then catF l else ⟨#[]⟩) = s at *
  generalize fsok l = ok at *
  clear hlen hlen2 hl
  go_wp2_with fail
  refine (HTO.out _ (H.out.below HB1.out)).mono ?_
  rintro e w2 ⟨v2, rfl, hb2, hf2⟩
  have HB2 := Lib.hid (HB1.out.trans (hb2.mono HB1.out.size))
  have HF2 := Lib.hid hf2
  clear hb2 hf2
  go_wp2_with fail
  refine (HS.out _ _ HF2.out).mono ?_
  rintro e w3 ⟨rfl, hb3⟩
  have HB3 := Lib.hid (HB2.out.trans (hb3.mono HB2.out.size))
  clear hb3
  go_wp2_with fail
  refine (HTO.out _ (H.out.below HB3.out)).mono ?_
  rintro e w4 ⟨v4, rfl, hb4, hf4⟩
  have HB4 := Lib.hid (HB3.out.trans (hb4.mono HB3.out.size))
  have HF4 := Lib.hid hf4
  clear hb4 hf4
  go_wp2_with fail
  refine (HI.out _ _ HF4.out).mono ?_
  rintro e w5 ⟨rfl, hb5⟩
  have HB5 := Lib.hid (HB4.out.trans (hb5.mono HB4.out.size))
  have HF5 := Lib.hid (HF4.out.below hb5)
  clear hb5
  go_wp2_with fail
  refine (HTO.out _ (H.out.below HB5.out)).mono ?_
  rintro e w6 ⟨v6, rfl, hb6, hf6⟩
  have HB6 := Lib.hid (HB5.out.trans (hb6.mono HB5.out.size))
  have HF6 := Lib.hid (HF5.out.below hb6)
  have HG6 := Lib.hid hf6
  clear hb6 hf6
  go_wp2_with fail
  refine (HEQ.out _ _ _ HF6.out HG6.out).mono ?_
  rintro e w7 ⟨rfl, hb7⟩
  have HB7 := Lib.hid (HB6.out.trans (hb7.mono HB6.out.size))
  clear hb7
  go_wp2_with fail
  go_ret
  exact ⟨rfl, HB7.out⟩
end Go.Proofs.Ythflokonihegbab
