/- The law RangesCanonical: the walk. -/
import Derived.Test.YtcjhbcibhcogjaaIAdd
import Derived.Test.YtcjhbcibhcogjaaCanMath
import Derived.Test.YtcjhbcibhcogjaaSameRg
import Derived.Test.YtcjhbcibhcogjaaDrValid
namespace Go.Proofs.Ytcjhbcibhcogjaa
open Go.RowKit
set_option linter.unusedVariables false
set_option linter.unusedSimpArgs false

set_option maxRecDepth 100000 in
set_option maxHeartbeats 2000000 in
theorem canon_walk (a : Option Addr) (len cap : Nat) (zs : List Int) (a1 : Option Addr) (len1 cap1 : Nat) (zs1 : List Int) (w : World) (h : IsRow .u8 w a len cap zs) (h1 : IsRow .u8 w a1 len1 cap1 zs1) :
    Calls Try.prog 13 #[.slice a len cap, .slice a1 len1 cap1] w fun e w' => e = .returned (.bool true) ∧ Below w.heap.size w w' := by
  have H := Lib.hid h
  clear h h1
  by_cases hl : 1048576 < len
  · go_enter Try.func13, Try.ntmps13
    go_wp2
    go_ret
    exact ⟨rfl, Below.refl _ _⟩
  by_cases hl1 : 1048576 < len1
  · go_enter Try.func13, Try.ntmps13
    go_wp2
    go_ret
    exact ⟨rfl, Below.refl _ _⟩
  go_enter Try.func13, Try.ntmps13
  go_wp2_with fail
  refine (drawValid_any a len cap zs w H.out).mono ?_
  rintro e w1 ⟨v, l, hl17, rfl, hb1, ho1, hn1⟩
  have B1 := Lib.hid hb1
  obtain ⟨la, lc, rfl⟩ := ownsRow_shape ho1
  have I1 := Lib.hid (Rngs.of_own ho1)
  obtain ⟨_, _, hsh, hcc⟩ := Rngs.of_own ho1
  injection hsh with hsh1 _ hsh2
  subst hsh1 hsh2
  have HC := Lib.hid hcc
  clear hb1 ho1 hn1 hcc
  go_wp2_with fail
  refine (ivalid_any _ l w1 I1.out (by omega)).mono ?_
  rintro e w2 ⟨rfl, hb2⟩
  have C2 := Lib.hid hb2
  clear hb2
  go_wp2_with fail
  refine (svalid_any _ l w2 (I1.out.below C2.out) (by omega)).mono ?_
  rintro e w3 ⟨rfl, hb3⟩
  have C3 := Lib.hid (C2.out.trans (hb3.mono C2.out.size))
  clear hb3
  cases hv : rvalid l with
  | false =>
    clear hv
    go_wp2_with fail
    go_ret
    exact ⟨rfl, B1.out.trans (C3.out.mono B1.out.size)⟩
  | true =>
    have HV := Lib.hid hv
    have hl16 := (rvalid_parts hv).2
    clear hv
    go_wp2_with fail
    go_loopw [8, 9] (fun xv iv wr => ∃ (i : Nat) (xs : List (Int × Int)), i ≤ l.length ∧ iv = .int .i64 i ∧ Hid (CSt l len1 i (part 0 0) xs) ∧ Hid (Rngs wr xv xs) ∧ Hid (Below w1.heap.size w1 wr)) (fun _ iv _ => l.length - (intOf iv).toNat)
    case atStart =>
      refine ⟨0, [], Nat.zero_le _, rfl, ⟨rfl, fun n => by simp [ysl, part]⟩, ⟨_, _, rfl, fun hx => absurd rfl hx⟩, C3.out.alloc C3.out.size _⟩
    case round =>
      obtain ⟨i, xs, hi, rfl, HS, HX, HB⟩ := hrel
      by_cases hlt : i < l.length
      · obtain ⟨g, o, rfl, hc⟩ := HC.out (by rintro rfl; simp at hlt)
        have b1 : (i : Int) < (l.length : Int) := by omega
        have hkl := kk_lt (M := len1) hlt
        obtain ⟨e1, e2⟩ := hc (kk l.length len1 i) hkl
        have E1 := Lib.hid e1
        have E2 := Lib.hid e2
        have e1 := (HB.out.cell (World.block_lt_of_cell? w1 _ E1.out)).trans E1.out
        have e2 := (HB.out.cell (World.block_lt_of_cell? w1 _ E2.out)).trans E2.out
        have hel := vfrom_els (rvalid_parts HV.out).1 (l.getD (kk l.length len1 i) (0, 0)) (by rw [List.getD_eq_getElem?_getD, List.getElem?_eq_getElem hkl]; exact List.getElem_mem hkl)
        have HE := Lib.hid (show l.getD (kk l.length len1 i) (0, 0) = ((l.getD (kk l.length len1 i) (0, 0)).1, (l.getD (kk l.length len1 i) (0, 0)).2) from rfl)
        have hkd : kk l.length len1 i = if l.length % 7 = 0 then l.length - 1 - i else (i * 7 + len1) % l.length := rfl
        generalize (l.getD (kk l.length len1 i) (0, 0)).1 = x at e1 E1 HE hel
        generalize (l.getD (kk l.length len1 i) (0, 0)).2 = y at e2 E2 HE hel
        obtain ⟨x0, xy, y9⟩ := hel
        have hmx : ((l.length : Int) < 1) = False := eq_false (by omega)
        clear hc
        generalize hK : kk l.length len1 i = k0 at e1 E1 e2 E2 HE hkl hkd
        have HK := Lib.hid hK
        have b2 : (k0 : Int) < (l.length : Int) := by omega
        have hlp : (1 : Int) ≤ (l.length : Int) := by omega
        by_cases h7 : l.length % 7 = 0
        · rw [if_pos h7] at hkd
          have h7b : ((l.length : Int) % 7 == 0) = true := by rw [beq_iff_eq]; omega
          have hki : (l.length : Int) - 1 - (i : Int) = (k0 : Int) := by omega
          clear hK h7 hkd
          go_wp2_with fail
          go_loopw [8, 11] (fun xv nv wq => ∃ (t : Nat) (xs2 : List (Int × Int)), (t : Int) ≤ y - x + 1 ∧ nv = .int .i64 (y - (t : Int)) ∧ Hid (CSt l len1 i (part y t) xs2) ∧ Hid (Rngs wq xv xs2) ∧ Hid (Below w1.heap.size w1 wq)) (fun _ nv _ => (intOf nv - x + 1).toNat)
          case atStart => exact ⟨0, xs, by omega, by simp, HS.out, HX.out, HB.out⟩
          case round =>
            obtain ⟨t, xs2, ht, rfl, HS2, HX2, HB2⟩ := hrel
            have e1 := (HB2.out.cell (World.block_lt_of_cell? w1 _ E1.out)).trans E1.out
            have e2 := (HB2.out.cell (World.block_lt_of_cell? w1 _ E2.out)).trans E2.out
            by_cases hcx : x ≤ y - (t : Int)
            · have hd : decide (x ≤ y - (t : Int)) = true := decide_eq_true hcx
              obtain ⟨q1, q2, q3⟩ := cst_add HV.out hlt x0 xy y9 hcx HS2.out
              have Q1 := Lib.hid q1
              have Q2 := Lib.hid q2
              clear q1 q2
              go_wp2_with fail
              refine (iradd_any _ xs2 (y - (t : Int)) (y - (t : Int)) _ HX2.out (by omega)).mono ?_
              rw [Q1.out]
              rintro e w5 ⟨v5, rfl, hb5, ho5, _⟩
              have HB5 := Lib.hid (HB2.out.trans (hb5.mono HB2.out.size))
              have I5 := Lib.hid (Rngs.of_own ho5)
              clear hb5 ho5
              go_wp2_with fail
              go_roundw
              case rel => exact ⟨t + 1, _, by omega, (by first | go_num | (congr 1; omega)), Q2.out, I5.out, HB5.out⟩
              case measure => simp [intOf]; omega
            · have hd : decide (x ≤ y - (t : Int)) = false := decide_eq_false hcx
              have HN := Lib.hid (cst_next (show l.getD (kk l.length len1 i) (0, 0) = (x, y) by rw [HK.out]; exact HE.out) xy (show (t : Int) = y - x + 1 by omega) HS2.out)
              go_wp2_with fail
              go_roundw
              case rel => exact ⟨i + 1, xs2, by omega, by go_num, HN.out, HX2.out, HB2.out⟩
              case measure => simp [intOf]; omega
        · rw [if_neg h7] at hkd
          have h7b : ((l.length : Int) % 7 == 0) = false := by rw [beq_eq_false_iff_ne]; omega
          have hki : ((i : Int) * 7 + (len1 : Int)) % max (l.length : Int) 1 = (k0 : Int) := by rw [show max (l.length : Int) 1 = (l.length : Int) by omega, hkd]; simp
          clear hK h7 hkd
          go_wp2_with fail
          simp only [hki]
          go_loopw [8, 11] (fun xv nv wq => ∃ (t : Nat) (xs2 : List (Int × Int)), (t : Int) ≤ y - x + 1 ∧ nv = .int .i64 (y - (t : Int)) ∧ Hid (CSt l len1 i (part y t) xs2) ∧ Hid (Rngs wq xv xs2) ∧ Hid (Below w1.heap.size w1 wq)) (fun _ nv _ => (intOf nv - x + 1).toNat)
          case atStart => exact ⟨0, xs, by omega, by simp, HS.out, HX.out, HB.out⟩
          case round =>
            obtain ⟨t, xs2, ht, rfl, HS2, HX2, HB2⟩ := hrel
            have e1 := (HB2.out.cell (World.block_lt_of_cell? w1 _ E1.out)).trans E1.out
            have e2 := (HB2.out.cell (World.block_lt_of_cell? w1 _ E2.out)).trans E2.out
            by_cases hcx : x ≤ y - (t : Int)
            · have hd : decide (x ≤ y - (t : Int)) = true := decide_eq_true hcx
              obtain ⟨q1, q2, q3⟩ := cst_add HV.out hlt x0 xy y9 hcx HS2.out
              have Q1 := Lib.hid q1
              have Q2 := Lib.hid q2
              clear q1 q2
              go_wp2_with fail
              refine (iradd_any _ xs2 (y - (t : Int)) (y - (t : Int)) _ HX2.out (by omega)).mono ?_
              rw [Q1.out]
              rintro e w5 ⟨v5, rfl, hb5, ho5, _⟩
              have HB5 := Lib.hid (HB2.out.trans (hb5.mono HB2.out.size))
              have I5 := Lib.hid (Rngs.of_own ho5)
              clear hb5 ho5
              go_wp2_with fail
              go_roundw
              case rel => exact ⟨t + 1, _, by omega, (by first | go_num | (congr 1; omega)), Q2.out, I5.out, HB5.out⟩
              case measure => simp [intOf]; omega
            · have hd : decide (x ≤ y - (t : Int)) = false := decide_eq_false hcx
              have HN := Lib.hid (cst_next (show l.getD (kk l.length len1 i) (0, 0) = (x, y) by rw [HK.out]; exact HE.out) xy (show (t : Int) = y - x + 1 by omega) HS2.out)
              go_wp2_with fail
              go_roundw
              case rel => exact ⟨i + 1, xs2, by omega, by go_num, HN.out, HX2.out, HB2.out⟩
              case measure => simp [intOf]; omega
      · have he : i = l.length := by omega
        have HEQ := Lib.hid (cst_end HV.out (by have := HS.out; rwa [he] at this))
        have hll : (l == l) = true := by simp
        clear he
        go_wp2_with fail
        refine (samerg_any _ _ xs l wr HX.out (I1.out.below HB.out) (by rw [HEQ.out]; omega) (by omega)).mono ?_
        rw [HEQ.out, hll]
        rintro e w5 ⟨rfl, hb5⟩
        have HB5 := Lib.hid (B1.out.trans ((HB.out.trans (hb5.mono HB.out.size)).mono B1.out.size))
        clear hb5
        go_wp2_with fail
        go_ret
        exact ⟨rfl, HB5.out⟩

end Go.Proofs.Ytcjhbcibhcogjaa
