/- The drawn arguments of chapter 11: DrawDerivable, DrawGuards. -/
import Derived.Test.YtakfohcnclmkbaaDrDe
namespace Go.Proofs.Ytakfohcnclmkbaa
open Go.RowKit
set_option linter.unusedVariables false
set_option linter.unusedSimpArgs false

set_option maxRecDepth 100000 in
set_option maxHeartbeats 800000 in
theorem drawDb_any (a : Option Addr) (len cap : Nat) (zs : List Int) (w : World) (h : IsRow .u8 w a len cap zs) :
    Calls Try.prog 21 #[.slice a len cap] w (GotDa w) := by
  have H := Lib.hid h
  clear h
  go_enter Try.func21, Try.ntmps21
  go_wp2_with fail
  refine (open_any a len cap zs _ H.out).mono ?_
  rintro e w1 ⟨rfl, hb, hR⟩
  have HB1 := Lib.hid hb
  have HR1 := Lib.hid hR
  clear hb hR
  go_wp2_with fail
  refine (boxes_any _ 0 _ HR1.out (by omega)).mono ?_
  rintro e w2 ⟨v, l, hl1, hl2, rfl, hg, hR, ho⟩
  have HB2 := Lib.hid (below_reader HB1.out hg)
  have HR2 := Lib.hid hR
  have HO2 := Lib.hid (ho.base (B' := w.heap.size + 1) (by have := HR1.out.1; omega))
  have HL := Lib.hid (And.intro hl1 hl2)
  clear hg hR ho hl1 hl2
  go_wp2_with fail
  refine (known_any _ _ _ HR2.out (by omega)).mono ?_
  rintro e w3 ⟨u, k, hk1, hk2, rfl, hg, hR, ho, hnn⟩
  have HB3 := Lib.hid (below_reader HB2.out hg)
  have HD3 : Hid (Drw w3 w.heap.size _ v u l k) := Lib.hid ⟨hR, HO2.out.picked hg (Nat.lt_succ_self _), ho.base (B' := w.heap.size + 1) (by have := HR2.out.1; omega), DL.of HL.out.1 HL.out.2 hk1 hk2⟩
  clear hg hR ho hk1 hk2
  go_wp2_with fail
  refine (atom_any _ _ _ HD3.out.rdr (by omega)).mono ?_
  rintro e w4 ⟨x, hx, rfl, hg, hR⟩
  have HB4 := Lib.hid (below_reader HB3.out hg)
  have HD4 := Lib.hid (HD3.out.picked hg hR)
  have HX := Lib.hid hx
  obtain ⟨va, vc, rfl⟩ := HD3.out.own.1.shape
  obtain ⟨ua, uc, rfl⟩ := HD3.out.known.shape
  clear hg hR hx
  go_wp2_with fail
  have HDL := Lib.hid HD4.out.dl.lens
  go_loopw [8, 9] (fun xv iv wr => ∃ (j : Nat) (x : Int), j ≤ 3 ∧ iv = .int .i64 (j : Int) ∧ xv = .int .i64 x ∧ Hid (abnd x) ∧ Hid (Below w.heap.size w wr) ∧ Hid (Drw wr w.heap.size (1000 + 2 * j) (.slice va l.length vc) (.slice ua k.length uc) l k)) (fun _ iv _ => 4 - (intOf iv).toNat)
  case atStart => exact ⟨0, x, by omega, rfl, rfl, HX, HB4, Lib.hid { HD4.out with rdr := HD4.out.rdr.le (by omega) }⟩
  case round =>
    clear HX HB4 HD4
    obtain ⟨j, x, hj, rfl, rfl, HX, HB, HD⟩ := hrel
    by_cases hlt : j < 3
    · have hlt' : (j : Int) < 3 := by omega
      go_wp2_with fail
      refine (sdble_any (.slice va l.length vc) (.slice ua k.length uc) (l.map Prod.fst) k x wr HD.out.bxs HD.out.known.ints (by have := HDL.out.1; omega) HDL.out.2.1 HDL.out.2.2).mono ?_
      rintro e w5 ⟨rfl, hb⟩
      have HB5 := Lib.hid (HB.out.trans (hb.mono HB.out.size))
      have HD5 := Lib.hid (HD.out.below hb)
      clear hb
      cases hq : db (l.map Prod.fst) k x with
      | true =>
        clear hq
        go_wp2_with fail
        refine bodyPost_ret (results_tmp3 rfl _ _ _) rfl ?_
        exact ⟨_, _, l.map Prod.fst, k, x, rfl, HB5.out, HD5.out.bxs, HD5.out.known.ints, HD5.out.dl, HX.out⟩
      | false =>
        clear hq
        go_wp2_with fail
        refine (atom_any _ _ _ HD5.out.rdr (by omega)).mono ?_
        rintro e w6 ⟨x6, hx6, rfl, hg, hR⟩
        have HB6 := Lib.hid (below_reader HB5.out hg)
        have HD6 := Lib.hid (HD5.out.picked hg hR)
        have HX6 := Lib.hid hx6
        clear hg hR hx6
        go_wp2_with fail
        go_roundw
        case rel => exact ⟨j + 1, x6, by omega, by go_num, rfl, HX6, HB6, Lib.hid { HD6.out with rdr := HD6.out.rdr.le (by omega) }⟩
        case measure => simp [intOf]; omega
    · have hlt' : ¬ (j : Int) < 3 := by omega
      go_wp2_with fail
      refine bodyPost_ret (results_tmp3 rfl _ _ _) rfl ?_
      exact ⟨_, _, l.map Prod.fst, k, x, rfl, HB.out, HD.out.bxs, HD.out.known.ints, HD.out.dl, HX.out⟩

set_option maxRecDepth 100000 in
set_option maxHeartbeats 800000 in
theorem drawGd_any (a : Option Addr) (len cap : Nat) (zs : List Int) (w : World) (h : IsRow .u8 w a len cap zs) :
    Calls Try.prog 27 #[.slice a len cap] w (GotDa w) := by
  have H := Lib.hid h
  clear h
  go_enter Try.func27, Try.ntmps27
  go_wp2_with fail
  refine (open_any a len cap zs _ H.out).mono ?_
  rintro e w1 ⟨rfl, hb, hR⟩
  have HB1 := Lib.hid hb
  have HR1 := Lib.hid hR
  clear hb hR
  go_wp2_with fail
  refine (boxes_any _ 0 _ HR1.out (by omega)).mono ?_
  rintro e w2 ⟨v, l, hl1, hl2, rfl, hg, hR, ho⟩
  have HB2 := Lib.hid (below_reader HB1.out hg)
  have HR2 := Lib.hid hR
  have HO2 := Lib.hid (ho.base (B' := w.heap.size + 1) (by have := HR1.out.1; omega))
  have HL := Lib.hid (And.intro hl1 hl2)
  clear hg hR ho hl1 hl2
  go_wp2_with fail
  refine (known_any _ _ _ HR2.out (by omega)).mono ?_
  rintro e w3 ⟨u, k, hk1, hk2, rfl, hg, hR, ho, hnn⟩
  have HB3 := Lib.hid (below_reader HB2.out hg)
  have HD3 : Hid (Drw w3 w.heap.size _ v u l k) := Lib.hid ⟨hR, HO2.out.picked hg (Nat.lt_succ_self _), ho.base (B' := w.heap.size + 1) (by have := HR2.out.1; omega), DL.of HL.out.1 HL.out.2 hk1 hk2⟩
  clear hg hR ho hk1 hk2
  go_wp2_with fail
  refine (atom_any _ _ _ HD3.out.rdr (by omega)).mono ?_
  rintro e w4 ⟨x, hx, rfl, hg, hR⟩
  have HB4 := Lib.hid (below_reader HB3.out hg)
  have HD4 := Lib.hid (HD3.out.picked hg hR)
  have HX := Lib.hid hx
  clear hg hR hx HL HO2 HD3 HB3
  go_wp2_with fail
  go_loopw [6, 7, 8, 9] (fun lv kv xv iv wr => ∃ (j : Nat) (x : Int) (l : List BxR) (k : List Int), j ≤ 10 ∧ iv = .int .i64 (j : Int) ∧ xv = .int .i64 x ∧ Hid (abnd x) ∧ Hid (Below w.heap.size w wr) ∧ Hid (Drw wr w.heap.size (1000 + 300 * j) lv kv l k)) (fun _ _ _ iv _ => 11 - (intOf iv).toNat)
  case atStart => exact ⟨0, x, l, k, by omega, rfl, rfl, HX, HB4, Lib.hid { HD4.out with rdr := HD4.out.rdr.le (by omega) }⟩
  case round =>
    clear HX HB4 HD4
    obtain ⟨j, x, l, k, hj, rfl, rfl, HX, HB, HD⟩ := hrel
    have HDL := Lib.hid HD.out.dl.lens
    obtain ⟨va, vc, rfl⟩ := HD.out.own.1.shape
    obtain ⟨ua, uc, rfl⟩ := HD.out.known.shape
    by_cases hlt : j < 10
    · have hlt' : (j : Int) < 10 := by omega
      go_wp2_with fail
      refine (sguards_any (.slice va l.length vc) (.slice ua k.length uc) (l.map Prod.fst) k x wr HD.out.bxs HD.out.known.ints HDL.out.1 HDL.out.2.1 HDL.out.2.2).mono ?_
      rintro e w5 ⟨r, rfl, hb, ho⟩
      obtain ⟨ra, rc, rfl⟩ := ho.shape
      have HB5 := Lib.hid (HB.out.trans (hb.mono HB.out.size))
      have HD5 := Lib.hid (HD.out.below hb)
      clear hb ho
      by_cases hq : (guardsL (l.map Prod.fst) k x).length = 0
      · have hb : (((guardsL (l.map Prod.fst) k x).length : Int) == 0) = true := by rw [beq_iff_eq]; omega
        clear hq
        go_wp2_with fail
        refine (boxes_any _ _ _ HD5.out.rdr (by omega)).mono ?_
        rintro e w6 ⟨v6, l6, hl1, hl2, rfl, hg, hR, ho⟩
        have HB6 := Lib.hid (below_reader HB5.out hg)
        have HR6 := Lib.hid hR
        have HO6 := Lib.hid (ho.base (B' := w.heap.size + 1) (by have := HD5.out.rdr.1; omega))
        have HL := Lib.hid (And.intro hl1 hl2)
        clear hg hR ho hl1 hl2
        go_wp2_with fail
        refine (known_any _ _ _ HR6.out (by omega)).mono ?_
        rintro e w7 ⟨u7, k7, hk1, hk2, rfl, hg, hR, ho, hnn⟩
        have HB7 := Lib.hid (below_reader HB6.out hg)
        have HD7 : Hid (Drw w7 w.heap.size _ v6 u7 l6 k7) := Lib.hid ⟨hR, HO6.out.picked hg (Nat.lt_succ_self _), ho.base (B' := w.heap.size + 1) (by have := HR6.out.1; omega), DL.of HL.out.1 HL.out.2 hk1 hk2⟩
        clear hg hR ho hk1 hk2
        go_wp2_with fail
        refine (atom_any _ _ _ HD7.out.rdr (by omega)).mono ?_
        rintro e w8 ⟨x8, hx, rfl, hg, hR⟩
        have HB8 := Lib.hid (below_reader HB7.out hg)
        have HD8 := Lib.hid (HD7.out.picked hg hR)
        have HX8 := Lib.hid hx
        clear hg hR hx HL HO6 HD7 HB7
        go_wp2_with fail
        go_roundw
        case rel => exact ⟨j + 1, x8, l6, k7, by omega, by go_num, rfl, HX8, HB8, Lib.hid { HD8.out with rdr := HD8.out.rdr.le (by omega) }⟩
        case measure => simp [intOf]; omega
      · have hb : (((guardsL (l.map Prod.fst) k x).length : Int) == 0) = false := by rw [beq_eq_false_iff_ne]; omega
        clear hq
        go_wp2_with fail
        refine bodyPost_ret (results_tmp3 rfl _ _ _) rfl ?_
        exact ⟨_, _, l.map Prod.fst, k, x, rfl, HB5.out, HD5.out.bxs, HD5.out.known.ints, HD5.out.dl, HX.out⟩
    · have hlt' : ¬ (j : Int) < 10 := by omega
      go_wp2_with fail
      refine bodyPost_ret (results_tmp3 rfl _ _ _) rfl ?_
      exact ⟨_, _, l.map Prod.fst, k, x, rfl, HB.out, HD.out.bxs, HD.out.known.ints, HD.out.dl, HX.out⟩

end Go.Proofs.Ytakfohcnclmkbaa
