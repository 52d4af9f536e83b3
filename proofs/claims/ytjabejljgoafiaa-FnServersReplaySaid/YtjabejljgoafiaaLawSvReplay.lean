/- The law FnServersReplay: the walk. -/
import Derived.Test.YtjabejljgoafiaaLawS
import Derived.Deep.CutBlock
import Derived.Deep.RegionHeld3
import Derived.StillTailTactics
namespace Go.Proofs.Ytjabejljgoafiaa
open Go.RowKit
set_option linter.unusedVariables false
set_option linter.unusedSimpArgs false

/-- What the replay's loop keeps. -/
structure RPI (L X : List Reg) (t : Tic) (n : Nat) : Prop where
  len : X.length = L.length
  ok : sok X
  le : n ≤ 1
  rej : n = 1 → ∀ k : Nat, k < L.length → stry X (k : Int) t = (X, false)
theorem RPI.step {L X : List Reg} {t : Tic} {n : Nat} (h : RPI L X t n) (ht : tkvd t) (k : Nat) (hk : k < L.length) : ((stry X (k : Int) t).2 = false ∧ RPI L (stry X (k : Int) t).1 t n) ∨ ((stry X (k : Int) t).2 = true ∧ RPI L (stry X (k : Int) t).1 t (n + 1)) := by
  have hg : sok X ∧ tkvd t ∧ (0 ≤ (k : Int) ∧ (k : Int) < X.length) := ⟨h.ok, ht, by omega, by have := h.len; omega⟩
  cases hq : (stry X (k : Int) t).2 with
  | false => rw [stry_good hg hq]; exact .inl ⟨rfl, h⟩
  | true =>
    obtain ⟨_, _, hl, _, hs, hr⟩ := stry_acc hq
    have hn : n = 0 := by
      have h0 := h.le
      by_cases h1 : n = 1
      · rw [h.rej h1 k hk] at hq; cases hq
      · omega
    exact .inr ⟨rfl, hl.trans h.len, hs, by omega, fun _ k' hk' => hr k' (by rw [h.len]; exact hk')⟩
theorem RPI.bnd {L X : List Reg} {t : Tic} {n : Nat} (h : RPI L X t n) : X.length ≤ 1048576 ∧ ∀ r ∈ X, r.2.length ≤ 1048576 :=
  ⟨by have := h.ok.1.2; omega, fun r hr => by have := (h.ok.2 r hr).2.1; omega⟩
set_option maxRecDepth 100000 in
set_option maxHeartbeats 8000000 in
theorem svreplay_walk (a : Option Addr) (len cap : Nat) (zs : List Int) (w : World) (h : IsRow .u8 w a len cap zs) :
    Calls Try.prog 13 #[.slice a len cap] w fun e w' => e = .returned (.bool true) ∧ Below w.heap.size w w' := by
  have H := Lib.hid h
  clear h
  by_cases hl : 1048576 < len
  · go_enter Try.func13, Try.ntmps13
    go_wp2
    go_ret
    exact ⟨rfl, Below.refl _ _⟩
  go_enter Try.func13, Try.ntmps13
  go_wp2_with fail
  refine (drsv_any a len cap zs w H.out).mono ?_
  rintro e w1 ⟨v, L, at', x, y, rfl, hR, hL4, hL9, hb1⟩
  have V1 := Lib.hid (LS.start (x := x) (y := y) hb1 hR 27)
  obtain ⟨av, cv, rfl⟩ : ∃ av cv, v = .slice av L.length cv := by obtain ⟨a0, c0, e, _⟩ := hR; exact ⟨a0, c0, e⟩
  have HL9 := Lib.hid (show ∀ r ∈ L, r.2.length ≤ 1048576 from fun r hr => Nat.le_trans (hL9 r hr) (by omega))
  obtain ⟨L', q, hq⟩ : ∃ L' q, stry L at' (x, y) = (L', q) := ⟨_, _, rfl⟩
  have HQ := Lib.hid hq
  have HLn := Lib.hid (stry_len (i := at') (t := (x, y)) hL4 hL9)
  rw [hq] at HLn
  have hM4 : L'.length ≤ 4 := HLn.out.1
  have HM9 := Lib.hid (show ∀ r ∈ L', r.2.length ≤ 1048576 from fun r hr => Nat.le_trans (HLn.out.2 r hr) (by omega))
  clear hR hb1 hL9 HLn
  go_upto_region 4 with fail
  generalize w1.alloc (.cells #[.int .i64 x, .int .i64 y] 27) = W1 at V1 ⊢
  generalize w1.heap.size = tb at V1 ⊢
  have CI := Lib.hid (isv_any _ L at' x y W1 V1.out.r.weak (by omega) HL9.out)
  rw [hq] at CI
  clear hq
  obtain ⟨t0, t1⟩ := V1.out.t
  go_wp2_with fail
  refine CI.out.mono ?_
  rintro e w2 ⟨v2, rfl, hb2, hG2⟩
  have R2 := Lib.hid (GotSv.rgs hG2)
  have V2 := Lib.hid (V1.out.below hb2)
  obtain ⟨a2, c2, rfl⟩ : ∃ a2 c2, v2 = .slice a2 L'.length c2 := by obtain ⟨a0, c0, e, _⟩ := R2.out; exact ⟨a0, c0, e⟩
  clear hG2 hb2 V1 t0 t1 CI
  have CS := Lib.hid (ssv_any _ L at' x y w2 V2.out.r (by omega) HL9.out)
  rw [HQ.out] at CS
  obtain ⟨t0, t1⟩ := V2.out.t
  go_wp2_with fail
  refine CS.out.mono ?_
  rintro e w3 ⟨v3, rfl, hR3, hb3⟩
  have V3 := Lib.hid (V2.out.below hb3)
  have R3 := Lib.hid (R2.out.below hb3)
  have S3 := Lib.hid hR3
  obtain ⟨a3, c3, rfl⟩ : ∃ a3 c3, v3 = .slice a3 L'.length c3 := by obtain ⟨a0, c0, e, _⟩ := S3.out; exact ⟨a0, c0, e⟩
  clear hR3 hb3 V2 R2 t0 t1 CS
  by_cases hL0 : L' = []
  · have hlz : ((L'.length : Int) == 0) = true := by rw [hL0]; rfl
    have hlz2 : (L'.length == 0) = true := by rw [hL0]; rfl
    clear hL0
    cases q
    all_goals
      go_wp2_with fail
      refine (samergs_any _ _ L' L' w3 R3.out S3.out (by omega) HM9.out).mono ?_
      rw [decide_eq_true rfl]
      rintro e w4 ⟨rfl, hb4⟩
      have V4 := Lib.hid (V3.out.below hb4)
      have R4 := Lib.hid (R3.out.below hb4)
      have S4 := Lib.hid (S3.out.below hb4)
      clear hb4 V3 R3 S3
      go_wp2_with fail
      refine (samergs_any _ _ L' L' w4 R4.out S4.out (by omega) HM9.out).mono ?_
      rw [decide_eq_true rfl]
      rintro e w5 ⟨rfl, hb5⟩
      have V5 := Lib.hid (V4.out.below hb5)
      have R5 := Lib.hid (R4.out.below hb5)
      have S5 := Lib.hid (S4.out.below hb5)
      clear hb5 V4 R4 S4
      go_wp2_with fail
      go_ret
      exact ⟨rfl, V5.out.bel⟩
  · have hln : L'.length ≠ 0 := fun e => hL0 (List.length_eq_zero_iff.1 e)
    have hlz : ((L'.length : Int) == 0) = false := by rw [beq_eq_false_iff_ne]; omega
    have hlz2 : (L'.length == 0) = false := by rw [beq_eq_false_iff_ne]; exact hln
    have hgg := stry_some (L := L) (i := at') (t := (x, y)) (by rw [HQ.out]; exact hL0)
    have HT := Lib.hid hgg.2.1
    have HI := Lib.hid (show RPI L L (x, y) 0 from ⟨rfl, hgg.1, by omega, fun h => by omega⟩)
    have hl0 : 1 ≤ L.length := hgg.1.1.1
    have hL1 : ¬ (L.length : Int) = 0 := by omega
    have hL2 : ((L.length : Int) == 0) = false := by rw [beq_eq_false_iff_ne]; omega
    have hL3 : ¬ L.length = 0 := by omega
    have hL4' : ¬ L = [] := fun e => by rw [e] at hL3; exact hL3 rfl
    have hw2 : IntKind.i64.wrap (2 * (L.length : Int)) = 2 * (L.length : Int) := IntWalk.i64_in _ (by omega)
    clear hL0 hln hgg
    cases q
    all_goals
      go_wp2_with fail
      refine (samergs_any _ _ L' L' w3 R3.out S3.out (by omega) HM9.out).mono ?_
      rw [decide_eq_true rfl]
      rintro e w4 ⟨rfl, hb4⟩
      have V4 := Lib.hid (V3.out.below hb4)
      have R4 := Lib.hid (R3.out.below hb4)
      have S4 := Lib.hid (S3.out.below hb4)
      clear hb4 V3 R3 S3
      have RL := Lib.hid V4.out.r.weak
      go_wp2_with fail
      go_loopw [10, 11, 12] (fun nv xv iv wr => ∃ (j n : Nat) (X : List Reg) (a7 : Option Addr) (c7 : Nat), j ≤ 2 * L.length ∧ nv = .int .i64 (n : Int) ∧ xv = .slice a7 L.length c7 ∧ iv = .int .i64 (j : Int) ∧ Hid (RPI L X (x, y) n) ∧ Hid (LS w wr tb (.slice av L.length cv) L x y) ∧ Hid (Rgs False wr (.slice a7 L.length c7) X)) (fun _ _ iv _ => 2 * L.length - (intOf iv).toNat)
      case atStart => exact ⟨0, 0, L, av, cv, Nat.zero_le _, rfl, rfl, rfl, HI, V4, RL⟩
      case round =>
        obtain ⟨j, n, X, a7, c7, hj, rfl, rfl, rfl, HP, HV, HR⟩ := hrel
        have hn1 : n ≤ 1 := HP.out.le
        by_cases hlt : j < 2 * L.length
        · have hlt' : (j : Int) < 2 * (L.length : Int) := by omega
          have hdl := decide_eq_true hlt'
          obtain ⟨k, hk⟩ : ∃ k : Nat, (k : Int) = Int.tmod (j : Int) (L.length : Int) := ⟨(Int.tmod (j : Int) (L.length : Int)).toNat, by have := Int.tmod_nonneg (L.length : Int) (show (0 : Int) ≤ (j : Int) by omega); omega⟩
          have hkl : k < L.length := by have := Int.tmod_lt_of_pos (j : Int) (show (0 : Int) < L.length by omega); omega
          obtain ⟨X2, q2, hx2⟩ : ∃ X2 q2, stry X (k : Int) (x, y) = (X2, q2) := ⟨_, _, rfl⟩
          have HST := Lib.hid (HP.out.step HT.out k hkl)
          rw [hx2] at HST
          have AD : Hid (Below wr.heap.size wr wr.drew) := Lib.hid (Below.refl _ _).drew
          have CI := Lib.hid (isv_any _ X (k : Int) x y wr.drew (HR.out.below AD.out) HP.out.bnd.1 HP.out.bnd.2)
          rw [hx2, hk] at CI
          have HK := Lib.hid hk
          obtain ⟨t0, t1⟩ := HV.out.t
          have KS := Lib.hid (fun (W : World) (hb : Below wr.heap.size wr W) => And.intro ((hb.cell (World.block_lt_of_cell? _ _ t0)).trans t0) ((hb.cell (World.block_lt_of_cell? _ _ t1)).trans t1))
          have kd := KS.out _ AD.out
          clear hx2 hk
          go_upto_region 13 with fail
          go_region_held3 (fun W => W.cell? ⟨tb, 0, none⟩ = some (.int .i64 x) ∧ W.cell? ⟨tb, 1, none⟩ = some (.int .i64 y)) (with_reducible first | assumption | exact kd | exact k8)
            ((go_at_call 28; (with_reducible refine CI.out.mono ?_); rintro e w8 ⟨v8, rfl, hb8, hG8⟩; have B8 := Lib.hid (AD.out.trans hb8); have k8 := KS.out _ B8.out; have R8 := Lib.hid (GotSv.rgs hG8)))
          all_goals
            obtain ⟨a8, c8, rfl⟩ : ∃ a8 c8, v8 = .slice a8 X2.length c8 := by obtain ⟨a0, c0, e, _⟩ := R8.out; exact ⟨a0, c0, e⟩
            have HV8 := Lib.hid (HV.out.below B8.out)
            clear kd k8 t0 t1 CI
            have hx8 : X2.length = L.length := by rcases HST.out with h | h <;> exact h.2.len
            rw [hx8] at R8 ⊢
            have HX8 := Lib.hid hx8
            clear hx8
            cases q2
            · have HP8 : Hid (RPI L X2 (x, y) n) := Lib.hid (by
                rcases HST.out with h | h
                · exact h.2
                · cases h.1)
              go_wp2_with fail
              go_roundw
              case rel => exact ⟨j + 1, n, X2, a8, c8, by omega, rfl, rfl, by go_num, HP8, HV8, R8⟩
              case measure => simp [intOf]; omega
            · have HP8 : Hid (RPI L X2 (x, y) (n + 1)) := Lib.hid (by
                rcases HST.out with h | h
                · cases h.1
                · exact h.2)
              have hw3 : IntKind.i64.wrap ((n : Int) + 1) = (n : Int) + 1 := IntWalk.i64_in _ (by omega)
              go_wp2_with fail
              go_roundw
              case rel => exact ⟨j + 1, n + 1, X2, a8, c8, by omega, by go_num, rfl, by go_num, HP8, HV8, R8⟩
              case measure => simp [intOf]; omega
        · have hlt' : ¬ (j : Int) < 2 * (L.length : Int) := by omega
          have hdl := decide_eq_false hlt'
          have hnn : (n : Int) ≤ 1 := by omega
          have hdn := decide_eq_true hnn
          go_wp2_with fail
          go_ret
          exact ⟨rfl, HV.out.bel⟩

end Go.Proofs.Ytjabejljgoafiaa
