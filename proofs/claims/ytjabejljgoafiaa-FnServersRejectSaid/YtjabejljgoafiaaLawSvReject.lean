/- The law FnServersReject: the walk. -/
import Derived.Test.YtjabejljgoafiaaLawS
import Derived.Deep.CutBlock
namespace Go.Proofs.Ytjabejljgoafiaa
open Go.RowKit
set_option linter.unusedVariables false
set_option linter.unusedSimpArgs false

set_option maxRecDepth 100000 in
set_option maxHeartbeats 8000000 in
theorem svreject_walk (a : Option Addr) (len cap : Nat) (zs : List Int) (w : World) (h : IsRow .u8 w a len cap zs) :
    Calls Try.prog 14 #[.slice a len cap] w fun e w' => e = .returned (.bool true) ∧ Below w.heap.size w w' := by
  have H := Lib.hid h
  clear h
  by_cases hl : 1048576 < len
  · go_enter Try.func14, Try.ntmps14
    go_wp2
    go_ret
    exact ⟨rfl, Below.refl _ _⟩
  go_enter Try.func14, Try.ntmps14
  go_wp2_with fail
  refine (drsv_any a len cap zs w H.out).mono ?_
  rintro e w1 ⟨v, L, at', x, y, rfl, hR, hL4, hL9, hb1⟩
  have V1 := Lib.hid (LS.start (x := x) (y := y) hb1 hR 27)
  obtain ⟨av, cv, rfl⟩ : ∃ av cv, v = .slice av L.length cv := by obtain ⟨a0, c0, e, _⟩ := hR; exact ⟨a0, c0, e⟩
  have HL9 := Lib.hid (show ∀ r ∈ L, r.2.length ≤ 1048576 from fun r hr => Nat.le_trans (hL9 r hr) (by omega))
  obtain ⟨L', q, hq⟩ : ∃ L' q, stry L at' (x, y) = (L', q) := ⟨_, _, rfl⟩
  have HQ := Lib.hid hq
  have HLn := Lib.hid (stry_len (i := at') (t := (x, y)) hL4 hL9)
  rw [hq] at HLn
  have hM4 : L'.length ≤ 4 := HLn.out.1
  have HM9 := Lib.hid (show ∀ r ∈ L', r.2.length ≤ 1048576 from fun r hr => Nat.le_trans (HLn.out.2 r hr) (by omega))
  clear hR hb1 hL9 HLn
  go_upto_region 4 with fail
  generalize w1.alloc (.cells #[.int .i64 x, .int .i64 y] 27) = W1 at V1 ⊢
  generalize w1.heap.size = tb at V1 ⊢
  have CI := Lib.hid (isv_any _ L at' x y W1 V1.out.r.weak (by omega) HL9.out)
  rw [hq] at CI
  clear hq
  obtain ⟨t0, t1⟩ := V1.out.t
  go_wp2_with fail
  refine CI.out.mono ?_
  rintro e w2 ⟨v2, rfl, hb2, hG2⟩
  have R2 := Lib.hid (GotSv.rgs hG2)
  have V2 := Lib.hid (V1.out.below hb2)
  obtain ⟨a2, c2, rfl⟩ : ∃ a2 c2, v2 = .slice a2 L'.length c2 := by obtain ⟨a0, c0, e, _⟩ := R2.out; exact ⟨a0, c0, e⟩
  clear hG2 hb2 V1 t0 t1 CI
  have CS := Lib.hid (ssv_any _ L at' x y w2 V2.out.r (by omega) HL9.out)
  rw [HQ.out] at CS
  obtain ⟨t0, t1⟩ := V2.out.t
  go_wp2_with fail
  refine CS.out.mono ?_
  rintro e w3 ⟨v3, rfl, hR3, hb3⟩
  have V3 := Lib.hid (V2.out.below hb3)
  have R3 := Lib.hid (R2.out.below hb3)
  have S3 := Lib.hid hR3
  obtain ⟨a3, c3, rfl⟩ : ∃ a3 c3, v3 = .slice a3 L'.length c3 := by obtain ⟨a0, c0, e, _⟩ := S3.out; exact ⟨a0, c0, e⟩
  clear hR3 hb3 V2 R2 t0 t1 CS
  cases q
  · by_cases hL0 : L' = []
    · have hlz : ((L'.length : Int) == 0) = true := by rw [hL0]; rfl
      have hlz2 : (L'.length == 0) = true := by rw [hL0]; rfl
      clear hL0
      go_wp2_with fail
      refine (samergs_any _ _ L' L' w3 R3.out S3.out (by omega) HM9.out).mono ?_
      rw [decide_eq_true rfl]
      rintro e w4 ⟨rfl, hb4⟩
      have V4 := Lib.hid (V3.out.below hb4)
      have R4 := Lib.hid (R3.out.below hb4)
      have S4 := Lib.hid (S3.out.below hb4)
      clear hb4 V3 R3 S3
      go_wp2_with fail
      refine (samergs_any _ _ L' L' w4 R4.out S4.out (by omega) HM9.out).mono ?_
      rw [decide_eq_true rfl]
      rintro e w5 ⟨rfl, hb5⟩
      have V5 := Lib.hid (V4.out.below hb5)
      have R5 := Lib.hid (R4.out.below hb5)
      have S5 := Lib.hid (S4.out.below hb5)
      clear hb5 V4 R4 S4
      go_wp2_with fail
      go_ret
      exact ⟨rfl, V5.out.bel⟩
    · have hln : L'.length ≠ 0 := fun e => hL0 (List.length_eq_zero_iff.1 e)
      have hlz : ((L'.length : Int) == 0) = false := by rw [beq_eq_false_iff_ne]; omega
      have hlz2 : (L'.length == 0) = false := by rw [beq_eq_false_iff_ne]; exact hln
      have HE : Hid (L' = L) := Lib.hid (by
        have h1 := stry_some (L := L) (i := at') (t := (x, y)) (by rw [HQ.out]; exact hL0)
        have h2 := stry_good h1 (by rw [HQ.out])
        rw [HQ.out] at h2; exact h2)
      clear hL0 hln
      go_wp2_with fail
      refine (samergs_any _ _ L' L' w3 R3.out S3.out (by omega) HM9.out).mono ?_
      rw [decide_eq_true rfl]
      rintro e w4 ⟨rfl, hb4⟩
      have V4 := Lib.hid (V3.out.below hb4)
      have R4 := Lib.hid (R3.out.below hb4)
      have S4 := Lib.hid (S3.out.below hb4)
      clear hb4 V3 R3 S3
      go_wp2_with fail
      refine (samergs_any _ _ L' L w4 R4.out V4.out.r.weak (by omega) HM9.out).mono ?_
      rw [decide_eq_true HE.out]
      rintro e w5 ⟨rfl, hb5⟩
      have V5 := Lib.hid (V4.out.below hb5)
      clear hb5 V4
      go_wp2_with fail
      go_ret
      exact ⟨rfl, V5.out.bel⟩
  · have hL0 : True := trivial
    go_wp2_with fail
    refine (samergs_any _ _ L' L' w3 R3.out S3.out (by omega) HM9.out).mono ?_
    rw [decide_eq_true rfl]
    rintro e w4 ⟨rfl, hb4⟩
    have V4 := Lib.hid (V3.out.below hb4)
    have R4 := Lib.hid (R3.out.below hb4)
    have S4 := Lib.hid (S3.out.below hb4)
    clear hb4 V3 R3 S3
    go_wp2_with fail
    refine (samergs_any _ _ L' L' w4 R4.out S4.out (by omega) HM9.out).mono ?_
    rw [decide_eq_true rfl]
    rintro e w5 ⟨rfl, hb5⟩
    have V5 := Lib.hid (V4.out.below hb5)
    have R5 := Lib.hid (R4.out.below hb5)
    have S5 := Lib.hid (S4.out.below hb5)
    clear hb5 V4 R4 S4
    go_wp2_with fail
    go_ret
    exact ⟨rfl, V5.out.bel⟩

end Go.Proofs.Ytjabejljgoafiaa
