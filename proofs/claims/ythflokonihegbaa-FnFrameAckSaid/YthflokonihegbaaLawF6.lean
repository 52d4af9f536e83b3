/- The law FrameAck: the walk. -/
import Derived.Test.YthflokonihegbaaLawF
import Derived.Test.YthflokonihegbaaDrRv
import Derived.Test.YthflokonihegbaaIVal
namespace Go.Proofs.Ythflokonihegbaa
open Go.RowKit
set_option linter.unusedVariables false
set_option linter.unusedSimpArgs false

theorem ack_ok (n : Int) (l : List (Int × Int)) (h0 : 0 ≤ n) (h1 : n ≤ 3) : fok ⟨2, n, 0, 0, ⟨#[]⟩, l⟩ = (rvalid l && decide (0 < l.length)) := by
  have e : fok ⟨2, n, 0, 0, ⟨#[]⟩, l⟩ = (fun1 ⟨2, n, 0, 0, ⟨#[]⟩, l⟩ && (fun2 ⟨2, n, 0, 0, ⟨#[]⟩, l⟩ && ((decide (0 ≤ n ∧ n ≤ 3) && (decide (0 < l.length) && rvalid l)) && true))) := rfl
  have e1 : fun1 ⟨2, n, 0, 0, ⟨#[]⟩, l⟩ = true := decide_eq_true ⟨fun _ => rfl, fun _ => rfl, fun h => absurd (show fnum 2 < 1 from h) (by decide)⟩
  have e2 : fun2 ⟨2, n, 0, 0, ⟨#[]⟩, l⟩ = true := decide_eq_true ⟨fun h => absurd rfl h, fun _ _ => rfl⟩
  rw [e, e1, e2, decide_eq_true ⟨h0, h1⟩]
  cases rvalid l <;> cases decide (0 < l.length) <;> rfl

set_option maxRecDepth 100000 in
set_option maxHeartbeats 1000000 in
theorem fack_walk (a : Option Addr) (len cap : Nat) (zs : List Int) (a1 : Option Addr) (len1 cap1 : Nat) (zs1 : List Int) (w : World) (h : IsRow .u8 w a len cap zs) (h1 : IsRow .u8 w a1 len1 cap1 zs1) :
    Calls Try.prog 13 #[.slice a len cap, .slice a1 len1 cap1] w fun e w' => e = .returned (.bool true) ∧ Below w.heap.size w w' := by
  have H := Lib.hid h
  clear h h1
  by_cases hl : 1048576 < len
  · go_enter Try.func13, Try.ntmps13
    go_wp2
    go_ret
    exact ⟨rfl, Below.refl _ _⟩
  by_cases hl1 : 1048576 < len1
  · go_enter Try.func13, Try.ntmps13
    go_wp2
    go_ret
    exact ⟨rfl, Below.refl _ _⟩
  obtain ⟨n, hn⟩ : ∃ n : Int, (len1 : Int) % 4 = n := ⟨_, rfl⟩
  have hn0 : 0 ≤ n ∧ n ≤ 3 := by omega
  have hm : Int.tmod (len1 : Int) 4 = n := by rw [Int.tmod_eq_emod_of_nonneg (by omega)]; exact hn
  clear hn
  go_enter Try.func13, Try.ntmps13
  go_wp2_with fail
  refine (drawValid_any a len cap zs w H.out).mono ?_
  rintro e w1 ⟨v, l, hll, rfl, hb, ho, _⟩
  obtain ⟨la, lc, rfl⟩ := ownsRow_shape ho
  have HRw1 := Lib.hid (Rngs.of_own ho)
  have HBw1 := Lib.hid hb
  have HOK := Lib.hid (ack_ok n l hn0.1 hn0.2)
  clear hb ho
  have IV := Lib.hid (fun W (h : Rngs W (.slice la l.length lc) l) => ifok_any ⟨2, n, 0, 0, ⟨#[]⟩, l⟩ (.slice la l.length lc) W h (by show l.length ≤ 1048576; omega) (by show 0 ≤ 2097152; omega))
  have IE := Lib.hid (fun W (h : Rngs W (.slice la l.length lc) l) => ifenc_any ⟨2, n, 0, 0, ⟨#[]⟩, l⟩ (.slice la l.length lc) W h (by show l.length ≤ 1048576; omega) (by show 0 ≤ 2097152; omega))
  rw [HOK.out] at IV
  unfold frV at IV IE
  simp only at IV IE
  have FX : Hid (Frm (w1.alloc (.cells #[.int .i64 2, .int .i64 n, .int .i64 0, .int .i64 0, .string ⟨#[]⟩, .slice la l.length lc] 25)) w1.heap.size [.int .i64 2, .int .i64 n, .int .i64 0, .int .i64 0, .string ⟨#[]⟩, .slice la l.length lc]) := Lib.hid (Frm.new w1 25 [.int .i64 2, .int .i64 n, .int .i64 0, .int .i64 0, .string ⟨#[]⟩, .slice la l.length lc])
  have HBW1 : Hid (Below w.heap.size w (w1.alloc (.cells #[.int .i64 2, .int .i64 n, .int .i64 0, .int .i64 0, .string ⟨#[]⟩, .slice la l.length lc] 25))) := Lib.hid (HBw1.out.alloc HBw1.out.size _)
  have HRW1 : Hid (Rngs (w1.alloc (.cells #[.int .i64 2, .int .i64 n, .int .i64 0, .int .i64 0, .string ⟨#[]⟩, .slice la l.length lc] 25)) (.slice la l.length lc) l) := Lib.hid (HRw1.out.below ((Below.refl _ _).alloc (Nat.le_refl _) _))
  have hsW1 : (w1.alloc (.cells #[.int .i64 2, .int .i64 n, .int .i64 0, .int .i64 0, .string ⟨#[]⟩, .slice la l.length lc] 25)).heap.size = w1.heap.size + 1 := by simp
  go_wp2_with fail
  generalize (w1.alloc (.cells #[.int .i64 2, .int .i64 n, .int .i64 0, .int .i64 0, .string ⟨#[]⟩, .slice la l.length lc] 25)) = W1 at *
  refine (IV.out _ HRW1.out).mono ?_
  rintro e w2 ⟨rfl, hb⟩
  have HRw2 := Lib.hid (HRW1.out.below hb)
  have HBw2 := Lib.hid (HBW1.out.trans (hb.mono HBW1.out.size))
  have FY := FX.out.below hb (by omega)
  have FX := Lib.hid FY
  have hzw2 := hb.size
  clear hb FY
  obtain ⟨rv, hrv⟩ : ∃ rv, rvalid l = rv := ⟨_, rfl⟩
  have HRV := Lib.hid hrv
  rw [hrv] at HOK ⊢
  clear hrv
  have hll' : l.length ≤ 1048576 := by omega
  cases rv
  · simp only [Bool.false_and]
    go_wp2_with fail
    refine (ivalid_any _ l w2 HRw2.out hll').mono ?_
    rw [HRV.out]
    rintro e w3 ⟨rfl, hb⟩
    have HRw3 := Lib.hid (HRw2.out.below hb)
    have HBw3 := Lib.hid (HBw2.out.trans (hb.mono HBw2.out.size))
    clear hb
    go_wp2_with fail
    refine (svalid_any _ l w3 HRw3.out hll').mono ?_
    rw [HRV.out]
    rintro e w4 ⟨rfl, hb⟩
    have HBw4 := Lib.hid (HBw3.out.trans (hb.mono HBw3.out.size))
    clear hb
    go_wp2_with fail
    go_ret
    exact ⟨rfl, HBw4.out⟩
  · by_cases hp : 0 < l.length
    · have HOKT : Hid (fok ⟨2, n, 0, 0, ⟨#[]⟩, l⟩ = true) := Lib.hid (by rw [HOK.out, decide_eq_true hp]; rfl)
      have hp' : (0 : Int) < (l.length : Int) := by omega
      have hpd : decide (0 < l.length) = true := decide_eq_true hp
      rw [hpd]
      simp only [Bool.true_and]
      obtain ⟨t, ht⟩ : ∃ t, fencS ⟨2, n, 0, 0, ⟨#[]⟩, l⟩ = t := ⟨_, rfl⟩
      have hte : t = fenc ⟨2, n, 0, 0, ⟨#[]⟩, l⟩ := by rw [← ht]; exact fencS_yes HOKT.out
      have hts := fenc_size HOKT.out
      rw [← hte] at hts
      have HD : Hid (dec4 t = some (⟨2, n, 0, 0, ⟨#[]⟩, l⟩, t.size)) := Lib.hid (by have := dec4_enc HOKT.out ⟨#[]⟩; rw [app_nil, ← hte] at this; exact this)
      rw [ht] at IE
      have HSZ : Hid (t.size ≤ 4194304) := Lib.hid (by omega)
      clear ht hte
      go_wp2_with fail
      refine (ivalid_any _ l w2 HRw2.out hll').mono ?_
      rw [HRV.out]
      rintro e w3 ⟨rfl, hb⟩
      have HRw3 := Lib.hid (HRw2.out.below hb)
      have HBw3 := Lib.hid (HBw2.out.trans (hb.mono HBw2.out.size))
      have FY := FX.out.below hb (by omega)
      obtain ⟨c0, c1, c2, c3, c4, c5⟩ : w3.cell? ⟨w1.heap.size, 0, none⟩ = some (.int .i64 2) ∧ w3.cell? ⟨w1.heap.size, 1, none⟩ = some (.int .i64 n) ∧ w3.cell? ⟨w1.heap.size, 2, none⟩ = some (.int .i64 0) ∧ w3.cell? ⟨w1.heap.size, 3, none⟩ = some (.int .i64 0) ∧ w3.cell? ⟨w1.heap.size, 4, none⟩ = some (.string ⟨#[]⟩) ∧ w3.cell? ⟨w1.heap.size, 5, none⟩ = some (.slice la l.length lc) := ⟨FY 0, FY 1, FY 2, FY 3, FY 4, FY 5⟩
      have FX := Lib.hid FY
      have hzw3 := hb.size
      clear hb FY
      go_wp2_with fail
      refine (IE.out _ HRw3.out).mono ?_
      rintro e w4 ⟨rfl, hb⟩
      have HRw4 := Lib.hid (HRw3.out.below hb)
      have HBw4 := Lib.hid (HBw3.out.trans (hb.mono HBw3.out.size))
      have FY := FX.out.below hb (by omega)
      have FX := Lib.hid FY
      have hzw4 := hb.size
      clear hb FY
      go_wp2_with fail
      refine (ifdec_any t _ HSZ.out).mono ?_
      rw [HD.out]
      rintro e w5 (⟨hn, _⟩ | ⟨f', n', ga, gc, hn, rfl, hb, ho⟩)
      · cases hn
      injection hn with hn
      injection hn with hn1 hn2
      subst hn1 hn2
      unfold frV
      have HBw5 := Lib.hid (HBw4.out.trans (hb.mono HBw4.out.size))
      have HRw5 := Lib.hid (HRw4.out.below hb)
      have FY := FX.out.below hb (by omega)
      obtain ⟨c0, c1, c2, c3, c4, c5⟩ : w5.cell? ⟨w1.heap.size, 0, none⟩ = some (.int .i64 2) ∧ w5.cell? ⟨w1.heap.size, 1, none⟩ = some (.int .i64 n) ∧ w5.cell? ⟨w1.heap.size, 2, none⟩ = some (.int .i64 0) ∧ w5.cell? ⟨w1.heap.size, 3, none⟩ = some (.int .i64 0) ∧ w5.cell? ⟨w1.heap.size, 4, none⟩ = some (.string ⟨#[]⟩) ∧ w5.cell? ⟨w1.heap.size, 5, none⟩ = some (.slice la l.length lc) := ⟨FY 0, FY 1, FY 2, FY 3, FY 4, FY 5⟩
      have hzw5 := hb.size
      have HRgw5 := Lib.hid (Rngs.of_own ho)
      have hlt : w1.heap.size < w5.heap.size := by omega
      clear hb ho FY
      have hee : (l == l) = true := by simp
      have BA : Hid (Below w5.heap.size w5 (w5.alloc (.cells #[.int .i64 2, .int .i64 n, .int .i64 0, .int .i64 0, .string ⟨#[]⟩, .slice ga l.length gc] 25))) := Lib.hid ((Below.refl _ _).alloc (Nat.le_refl _) _)
      have FG : Hid (Frm (w5.alloc (.cells #[.int .i64 2, .int .i64 n, .int .i64 0, .int .i64 0, .string ⟨#[]⟩, .slice ga l.length gc] 25)) w5.heap.size [.int .i64 2, .int .i64 n, .int .i64 0, .int .i64 0, .string ⟨#[]⟩, .slice ga l.length gc]) := Lib.hid (Frm.new w5 25 [.int .i64 2, .int .i64 n, .int .i64 0, .int .i64 0, .string ⟨#[]⟩, .slice ga l.length gc])
      go_wp2_with fail
      refine (samerg_any _ _ l l _ (HRgw5.out.below BA.out) (HRw5.out.below BA.out) hll' hll').mono ?_
      rw [hee]
      rintro e w6 ⟨rfl, hb⟩
      have HBw6 := Lib.hid (HBw5.out.trans ((BA.out.trans (hb.mono BA.out.size)).mono HBw5.out.size))
      have d1 : w6.cell? ⟨w5.heap.size, 1, none⟩ = some (.int .i64 n) := (FG.out.below hb (by simp)) 1
      have e1 : w6.cell? ⟨w1.heap.size, 1, none⟩ = some (.int .i64 n) := (hb.cell (by show w1.heap.size < _; simp; omega)).trans ((BA.out.cell (by exact hlt)).trans c1)
      clear hb
      go_wp2_with fail
      go_ret
      exact ⟨rfl, HBw6.out⟩
    · have hp' : ¬ (0 : Int) < (l.length : Int) := by omega
      have hpd : decide (0 < l.length) = false := decide_eq_false hp
      rw [hpd]
      simp only [Bool.true_and]
      go_wp2_with fail
      refine (ivalid_any _ l w2 HRw2.out hll').mono ?_
      rw [HRV.out]
      rintro e w3 ⟨rfl, hb⟩
      have HRw3 := Lib.hid (HRw2.out.below hb)
      have HBw3 := Lib.hid (HBw2.out.trans (hb.mono HBw2.out.size))
      clear hb
      go_wp2_with fail
      refine (svalid_any _ l w3 HRw3.out hll').mono ?_
      rw [HRV.out]
      rintro e w4 ⟨rfl, hb⟩
      have HBw4 := Lib.hid (HBw3.out.trans (hb.mono HBw3.out.size))
      clear hb
      go_wp2_with fail
      go_ret
      exact ⟨rfl, HBw4.out⟩
end Go.Proofs.Ythflokonihegbaa
