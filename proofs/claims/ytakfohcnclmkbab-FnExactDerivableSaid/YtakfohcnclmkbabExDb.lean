/- FnExactDerivable. -/
import Derived.Test.YtakfohcnclmkbabExL
namespace Go.Proofs.Ytakfohcnclmkbab
open Go.RowKit
set_option linter.unusedVariables false
set_option linter.unusedSimpArgs false

set_option maxRecDepth 100000 in
set_option maxHeartbeats 4000000 in
theorem exdb_walk (a : Option Addr) (len cap : Nat) (l : List Bx) (a1 : Option Addr) (len1 cap1 : Nat) (k : List Int) (x : Int) (w : World) (hl : l.length = len ∧ len ≤ 9223372036854775807) (h : Bxs w (.slice a len cap) l) (hm : ∀ b ∈ l, b.2.length ≤ 9223372036854775807 ∧ i64ok b.1) (hl1 : k.length = len1 ∧ len1 ≤ 9223372036854775807) (h1 : Ints w (.slice a1 len1 cap1) k) (hx : i64ok x) :
    Calls Try.prog 5 #[.slice a len cap, .slice a1 len1 cap1, .int .i64 x] w fun e w' => e = .returned (.bool true) ∧ Below w.heap.size w w' := by
  have H := Lib.hid h
  have HSZ := Lib.hid (szbs_any _ l w h (by omega) (fun b hb => (hm b hb).1))
  have H1 := Lib.hid h1
  have HX := Lib.hid hx
  have HKY := Lib.hid (fun b hb => (hm b hb).2)
  clear h hm hl h1 hx
  obtain ⟨hk1, hk2⟩ := hl1
  subst hk1
  by_cases hk : 1048576 < k.length
  · have hk' : (1048576 : Int) < (k.length : Int) := by omega
    go_enter Try.func5, Try.ntmps5
    go_wp2
    go_ret
    exact ⟨rfl, Below.refl _ _⟩
  have hk' : ¬ (1048576 : Int) < (k.length : Int) := by omega
  have hkl : k.length ≤ 1048576 := by omega
  go_enter Try.func5, Try.ntmps5
  go_wp2_with fail
  refine HSZ.out.mono ?_
  rintro e w1 ⟨n, rfl, hb1, hn⟩
  have HB1 := Lib.hid hb1
  clear hb1
  rcases hn with hn | ⟨hn, hl, hlen⟩
  · go_wp2_with fail
    go_ret
    exact ⟨rfl, HB1.out⟩
  have HTO := Lib.hid (fun W h => tobs_any (.slice a len cap) l W h hl hlen)
  have HTK := Lib.hid (fun W h => (toInt_any (.slice a1 k.length cap1) k W h hkl).mono fun _ _ hc => copied_form hc)
  have HEB := Lib.hid (fun W v v' h h' => eqbs_any v v' l W h h' hl hlen)
  have HEK := Lib.hid (fun W v v' h h' => eqint_any v v' k k W h h' (by omega) (by omega))
  rw [beq_self_eq_true] at HEK
  have HS := Lib.hid (fun W v u h h' => sdble_any v u l k x W h h' hl hlen hkl)
  have HI := Lib.hid (fun W v u h h' => idble_any v u l k x W h h' hl hlen hkl HX.out)
  have hqq : (db l k x != db l k x) = false := by simp
  generalize db l k x = q at *
  clear HKY
  go_wp2_with fail
  refine (HTO.out _ (H.out.below HB1.out)).mono ?_
  rintro e w2 ⟨rfl, hb, hf, _⟩
  have HB2 := Lib.hid (HB1.out.trans (hb.mono HB1.out.size))
  have HF2 := Lib.hid (hf.bxs (c := l.length))
  clear hb hf
  go_wp2_with fail
  refine (HTK.out _ (H1.out.below HB2.out)).mono ?_
  rintro e w3 ⟨q3, c3, rfl, hb, ho⟩
  have HB3 := Lib.hid (HB2.out.trans (hb.mono HB2.out.size))
  have HF3 := Lib.hid (HF2.out.below hb)
  have HK3 := Lib.hid ho.ints
  clear hb ho
  go_wp2_with fail
  refine (HS.out _ _ _ HF3.out HK3.out).mono ?_
  rintro e w4 ⟨rfl, hb⟩
  have HB4 := Lib.hid (HB3.out.trans (hb.mono HB3.out.size))
  clear hb HF2 HF3 HK3
  go_wp2_with fail
  refine (HTO.out _ (H.out.below HB4.out)).mono ?_
  rintro e w5 ⟨rfl, hb, hf, _⟩
  have HB5 := Lib.hid (HB4.out.trans (hb.mono HB4.out.size))
  have X5 := Lib.hid (hf.bxs (c := l.length))
  clear hb hf
  go_wp2_with fail
  refine (HTK.out _ (H1.out.below HB5.out)).mono ?_
  rintro e w6 ⟨q6, c6, rfl, hb, ho⟩
  have HB6 := Lib.hid (HB5.out.trans (hb.mono HB5.out.size))
  have X6 := Lib.hid (X5.out.below hb)
  have K6 := Lib.hid ho.ints
  clear hb ho
  go_wp2_with fail
  refine (HI.out _ _ _ X6.out K6.out).mono ?_
  rintro e w7 ⟨rfl, hb⟩
  have HB7 := Lib.hid (HB6.out.trans (hb.mono HB6.out.size))
  have X7 := Lib.hid (X6.out.below hb)
  have K7 := Lib.hid (K6.out.below hb)
  clear hb
  go_wp2_with fail
  refine (HTO.out _ (H.out.below HB7.out)).mono ?_
  rintro e w9 ⟨rfl, hb, hf, _⟩
  have HB9 := Lib.hid (HB7.out.trans (hb.mono HB7.out.size))
  have X9 := Lib.hid (X7.out.below hb)
  have K9 := Lib.hid (K7.out.below hb)
  have Y9 := Lib.hid (hf.bxs (c := l.length))
  clear hb hf
  go_wp2_with fail
  refine (HEB.out _ _ _ X9.out Y9.out).mono ?_
  rintro e w10 ⟨rfl, hb⟩
  have HB10 := Lib.hid (HB9.out.trans (hb.mono HB9.out.size))
  have K10 := Lib.hid (K9.out.below hb)
  clear hb
  go_wp2_with fail
  refine (HTK.out _ (H1.out.below HB10.out)).mono ?_
  rintro e w11 ⟨q11, c11, rfl, hb, ho⟩
  have HB11 := Lib.hid (HB10.out.trans (hb.mono HB10.out.size))
  have K11 := Lib.hid (K10.out.below hb)
  have Y11 := Lib.hid ho.ints
  clear hb ho
  go_wp2_with fail
  refine (HEK.out _ _ _ K11.out Y11.out).mono ?_
  rintro e w12 ⟨rfl, hb⟩
  have HB12 := Lib.hid (HB11.out.trans (hb.mono HB11.out.size))
  clear hb
  go_wp2_with fail
  go_ret
  exact ⟨rfl, HB12.out⟩
end Go.Proofs.Ytakfohcnclmkbab
