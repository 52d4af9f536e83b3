/- FnExactGuards. -/
import Derived.Test.YtakfohcnclmkbabExL
namespace Go.Proofs.Ytakfohcnclmkbab
open Go.RowKit
set_option linter.unusedVariables false
set_option linter.unusedSimpArgs false

set_option maxRecDepth 100000 in
set_option maxHeartbeats 4000000 in
theorem exgd_walk (a : Option Addr) (len cap : Nat) (l : List Bx) (a1 : Option Addr) (len1 cap1 : Nat) (k : List Int) (x : Int) (w : World) (hl : l.length = len ∧ len ≤ 9223372036854775807) (h : Bxs w (.slice a len cap) l) (hm : ∀ b ∈ l, b.2.length ≤ 9223372036854775807 ∧ i64ok b.1) (hl1 : k.length = len1 ∧ len1 ≤ 9223372036854775807) (h1 : Ints w (.slice a1 len1 cap1) k) (hx : i64ok x) :
    Calls Try.prog 7 #[.slice a len cap, .slice a1 len1 cap1, .int .i64 x] w fun e w' => e = .returned (.bool true) ∧ Below w.heap.size w w' := by
  have H := Lib.hid h
  have HSZ := Lib.hid (szbs_any _ l w h (by omega) (fun b hb => (hm b hb).1))
  have H1 := Lib.hid h1
  have HX := Lib.hid hx
  have HKY := Lib.hid (fun b hb => (hm b hb).2)
  clear h hm hl h1 hx
  obtain ⟨hk1, hk2⟩ := hl1
  subst hk1
  by_cases hk : 1048576 < k.length
  · have hk' : (1048576 : Int) < (k.length : Int) := by omega
    go_enter Try.func7, Try.ntmps7
    go_wp2
    go_ret
    exact ⟨rfl, Below.refl _ _⟩
  have hk' : ¬ (1048576 : Int) < (k.length : Int) := by omega
  have hkl : k.length ≤ 1048576 := by omega
  go_enter Try.func7, Try.ntmps7
  go_wp2_with fail
  refine HSZ.out.mono ?_
  rintro e w1 ⟨n, rfl, hb1, hn⟩
  have HB1 := Lib.hid hb1
  clear hb1
  rcases hn with hn | ⟨hn, hl, hlen⟩
  · go_wp2_with fail
    go_ret
    exact ⟨rfl, HB1.out⟩
  have HTO := Lib.hid (fun W h => tobs_any (.slice a len cap) l W h hl hlen)
  have HTK := Lib.hid (fun W h => (toInt_any (.slice a1 k.length cap1) k W h hkl).mono fun _ _ hc => copied_form hc)
  have HEB := Lib.hid (fun W v v' h h' => eqbs_any v v' l W h h' hl hlen)
  have HEK := Lib.hid (fun W v v' h h' => eqint_any v v' k k W h h' (by omega) (by omega))
  rw [beq_self_eq_true] at HEK
  have HS := Lib.hid (fun W v u h h' => (sguards_any v u l k x W h h' hl hlen hkl).mono fun e W' hp => (show LstPost W (guardsL l k x) e W' from hp))
  have HI := Lib.hid (fun W v u h h' => (iguards_any v u l k x W h h' hl hlen hkl HX.out).mono fun e W' hp => (show LstPost W (guardsL l k x) e W' from hp))
  have hr := guardsL_len l k x
  generalize guardsL l k x = r at *
  clear HKY
  go_wp2_with fail
  refine (HTO.out _ (H.out.below HB1.out)).mono ?_
  rintro e w2 ⟨rfl, hb, hf, _⟩
  have HB2 := Lib.hid (HB1.out.trans (hb.mono HB1.out.size))
  have HF2 := Lib.hid (hf.bxs (c := l.length))
  clear hb hf
  go_wp2_with fail
  refine (HTK.out _ (H1.out.below HB2.out)).mono ?_
  rintro e w3 ⟨q3, c3, rfl, hb, ho⟩
  have HB3 := Lib.hid (HB2.out.trans (hb.mono HB2.out.size))
  have HF3 := Lib.hid (HF2.out.below hb)
  have HK3 := Lib.hid ho.ints
  clear hb ho
  go_wp2_with fail
  refine (HS.out _ _ _ HF3.out HK3.out).mono ?_
  rintro e w4 ⟨v4, rfl, hb, ho⟩
  obtain ⟨a4, c4, rfl⟩ := ho.shape
  have HB4 := Lib.hid (HB3.out.trans (hb.mono HB3.out.size))
  have HW4 := Lib.hid ho.ints
  clear hb ho HF2 HF3 HK3
  have HER := Lib.hid (fun W v v' h h' => eqint_any v v' r r W h h' (by omega) (by omega))
  rw [beq_self_eq_true] at HER
  go_wp2_with fail
  refine (HTO.out _ (H.out.below HB4.out)).mono ?_
  rintro e w5 ⟨rfl, hb, hf, hz⟩
  have C5 := Lib.hid hb
  have hz5 : w4.heap.size < w5.heap.size := hz
  have M5 := Lib.hid hf.mb
  have X5 := Lib.hid (hf.bxs (c := l.length))
  clear hb hf hz
  go_wp2_with fail
  refine (HTK.out _ ((H1.out.below HB4.out).below C5.out)).mono ?_
  rintro e w6 ⟨q6, c6, rfl, hb, ho⟩
  have C6 := Lib.hid (C5.out.trans (hb.mono C5.out.size))
  have M6 := Lib.hid (M5.out.mono hb)
  have X6 := Lib.hid (X5.out.below hb)
  have K6 := Lib.hid ho
  have hq6 : q6 < w6.heap.size := (ho.lt rfl).2
  have hz6 := hb.size
  clear hb ho
  go_wp2_with fail
  refine (HI.out _ _ _ X6.out K6.out.ints).mono ?_
  rintro e w7 ⟨v7, rfl, hb, ho⟩
  obtain ⟨a7, c7, rfl⟩ := ho.shape
  have C7 := Lib.hid (C6.out.trans (hb.mono C6.out.size))
  have M7 := Lib.hid (M6.out.mono hb)
  have X7 := Lib.hid (X6.out.below hb)
  have K7 := Lib.hid (K6.out.below hb)
  have G7 := Lib.hid ho
  have HNE : Hid ((Value.slice a7 r.length c7).ownBlock = none ∨ (Value.slice a7 r.length c7).ownBlock ≠ some q6) := Lib.hid (.inr fun he => by have := (ho.lt he).1; omega)
  clear hb ho
  go_wp2_with fail
  refine (HER.out _ _ _ G7.out.ints (HW4.out.below C7.out)).mono ?_
  rintro e w8 ⟨rfl, hb⟩
  have C8 := Lib.hid (C7.out.trans (hb.mono C7.out.size))
  have M8 := Lib.hid (M7.out.mono hb)
  have X8 := Lib.hid (X7.out.below hb)
  have K8 := Lib.hid (K7.out.below hb)
  have G8 := Lib.hid (G7.out.below hb)
  clear hb
  go_wp2_with fail
  refine (HTO.out _ (H.out.below (HB4.out.trans (C8.out.mono HB4.out.size)))).mono ?_
  rintro e w9 ⟨rfl, hb, hf, _⟩
  have C9 := Lib.hid (C8.out.trans (hb.mono C8.out.size))
  have M9 := Lib.hid (M8.out.mono hb)
  have X9 := Lib.hid (X8.out.below hb)
  have K9 := Lib.hid (K8.out.below hb)
  have G9 := Lib.hid (G8.out.below hb)
  have Y9 := Lib.hid (hf.bxs (c := l.length))
  clear hb hf
  go_wp2_with fail
  refine (HEB.out _ _ _ X9.out Y9.out).mono ?_
  rintro e w10 ⟨rfl, hb⟩
  have C10 := Lib.hid (C9.out.trans (hb.mono C9.out.size))
  have M10 := Lib.hid (M9.out.mono hb)
  have K10 := Lib.hid (K9.out.below hb)
  have G10 := Lib.hid (G9.out.below hb)
  clear hb Y9 X5 X6 X7 X8 X9 M5 M6 M7 M8 M9 K6 K7 K8 K9 G7 G8 G9
  go_wp2_with fail
  refine (HTK.out _ (H1.out.below (HB4.out.trans (C10.out.mono HB4.out.size)))).mono ?_
  rintro e w11 ⟨q11, c11, rfl, hb, ho⟩
  have C11 := Lib.hid (C10.out.trans (hb.mono C10.out.size))
  have M11 := Lib.hid (M10.out.mono hb)
  have K11 := Lib.hid (K10.out.below hb)
  have G11 := Lib.hid (G10.out.below hb)
  have Y11 := Lib.hid ho.ints
  clear hb ho
  go_wp2_with fail
  refine (HEK.out _ _ _ K11.out.ints Y11.out).mono ?_
  rintro e w12 ⟨rfl, hb⟩
  have C12 := Lib.hid (C11.out.trans (hb.mono C11.out.size))
  have M12 := Lib.hid (M11.out.mono hb)
  have K12 := Lib.hid (K11.out.below hb)
  have G12 := Lib.hid (G11.out.below hb)
  clear hb Y11 M10 M11 K10 K11 G10 G11
  go_wp2_with fail
  refine (markbs_any w4.heap.size l.length w5.heap.size l w12 M12.out hz5 hl hlen).mono ?_
  rintro e w13 ⟨K, rfl, hk0, hk1, hs⟩
  have C13 := Lib.hid (C12.out.trans (hs.below C12.out.size))
  have K13 := Lib.hid (hs.own K12.out (Nat.le_refl _))
  have G13 := Lib.hid (hs.own G12.out hz6)
  clear hs
  have hkk : ¬ (K + (k.length : Int)) < 0 := by omega
  have MK := Lib.hid (markw_any q6 k.length c6 K w13 (own_ic (n := 0) K13.out) (by omega) (by omega) hkl)
  generalize K + (k.length : Int) = K2 at *
  go_wp2_with fail
  refine MK.out.mono ?_
  rintro e w14 ⟨rfl, hw⟩
  have C14 := Lib.hid (C13.out.grown hw.grown C13.out.size (fun j hj => by injection hj with hj; have h9 : w5.heap.size ≤ q6 := (K13.out.lt rfl).1; omega))
  have G14 : Hid (OwnI w14 w6.heap.size (.slice a7 r.length c7) r) := Lib.hid (G13.out.kept hw.grown HNE.out)
  clear hw MK
  go_wp2_with fail
  refine (HER.out _ _ _ G14.out.ints (HW4.out.below C14.out)).mono ?_
  rintro e w15 ⟨rfl, hb⟩
  have C15 := Lib.hid (C14.out.trans (hb.mono C14.out.size))
  have G15 := Lib.hid (G14.out.below hb)
  clear hb
  have hm0 : ¬ (1 + (r.length : Int)) < 0 := by omega
  have hmm : ((1 + (r.length : Int)) != (1 + (r.length : Int))) = false := by simp
  have MR := Lib.hid (mark_any (.slice a7 r.length c7) r w6.heap.size w15 1 G15.out (by omega) (by omega))
  have HHD := Lib.hid (fun W (h : Ints W (.slice a7 r.length c7) (marks 1 r.length)) => held_any (.slice a7 r.length c7) r.length W 1 h (by omega) (by omega))
  have HHD2 : Hid (∀ W, Ints W (.slice a7 r.length c7) (marks 1 r.length) → Calls Try.prog 19 #[.slice a7 r.length c7, .int .i64 1] W fun e w' => e = .returned (.int .i64 (1 + (r.length : Int))) ∧ W = w') := Lib.hid HHD.out
  have MR2 : Hid (Calls Try.prog 18 #[.slice a7 r.length c7, .int .i64 1] w15 fun e w' => e = .returned (.int .i64 (1 + (r.length : Int))) ∧ w15.grownBy w' (Value.slice a7 r.length c7).ownBlock ∧ w'.ownsRow w6.heap.size 3 1 (.slice a7 r.length c7) r.length ((marks 1 r.length).map (Value.int .i64))) := Lib.hid MR.out
  clear MR HHD
  generalize 1 + (r.length : Int) = m at *
  go_wp2_with fail
  refine MR2.out.mono ?_
  rintro e w16 ⟨rfl, hg, ho⟩
  have C16 := Lib.hid (C15.out.grown hg C15.out.size (fun j hj => by have := (G15.out.lt hj).1; omega))
  have I16 : Hid (Ints w16 (.slice a7 r.length c7) (marks 1 r.length)) := Lib.hid (Ints.of_own (by rw [marks_len]; exact ho))
  clear hg ho MR2
  go_wp2_with fail
  refine (HHD2.out _ I16.out).mono ?_
  rintro e w17 ⟨rfl, rfl⟩
  go_wp2_with fail
  refine (HTO.out _ (H.out.below (HB4.out.trans (C16.out.mono HB4.out.size)))).mono ?_
  rintro e w18 ⟨rfl, hb, hf, _⟩
  have C18 := Lib.hid (C16.out.trans (hb.mono C16.out.size))
  have I18 := Lib.hid (I16.out.below hb)
  have X18 := Lib.hid (hf.bxs (c := l.length))
  clear hb hf
  go_wp2_with fail
  refine (HTK.out _ (H1.out.below (HB4.out.trans (C18.out.mono HB4.out.size)))).mono ?_
  rintro e w19 ⟨q19, c19, rfl, hb, ho⟩
  have C19 := Lib.hid (C18.out.trans (hb.mono C18.out.size))
  have I19 := Lib.hid (I18.out.below hb)
  have X19 := Lib.hid (X18.out.below hb)
  have K19 := Lib.hid ho.ints
  clear hb ho
  go_wp2_with fail
  refine (HI.out _ _ _ X19.out K19.out).mono ?_
  rintro e w20 ⟨v20, rfl, hb, ho⟩
  obtain ⟨a20, c20, rfl⟩ := ho.shape
  have C20 := Lib.hid (C19.out.trans (hb.mono C19.out.size))
  have I20 := Lib.hid (I19.out.below hb)
  have G20 := Lib.hid ho.ints
  clear hb ho
  go_wp2_with fail
  refine (HER.out _ _ _ G20.out (HW4.out.below C20.out)).mono ?_
  rintro e w21 ⟨rfl, hb⟩
  have C21 := Lib.hid (C20.out.trans (hb.mono C20.out.size))
  have I21 := Lib.hid (I20.out.below hb)
  clear hb
  go_wp2_with fail
  refine (HHD2.out _ I21.out).mono ?_
  rintro e w22 ⟨rfl, rfl⟩
  go_wp2_with fail
  go_ret
  exact ⟨rfl, HB4.out.trans (C21.out.mono HB4.out.size)⟩
end Go.Proofs.Ytakfohcnclmkbab
