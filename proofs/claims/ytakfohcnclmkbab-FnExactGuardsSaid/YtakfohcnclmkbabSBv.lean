/- Chapter 11, the model's BoxesValid. -/
import Derived.Test.YtakfohcnclmkbabSAt
namespace Go.Proofs.Ytakfohcnclmkbab
open Go.RowKit
set_option linter.unusedVariables false
set_option linter.unusedSimpArgs false

theorem bsok_bad {l : List Bx} {b : Bx} (hm : b ∈ l) (h : bok b = false) : bsok l = false := by
  cases hq : bsok l
  · rfl
  · have := (bsok_iff.1 hq).2 b hm
    rw [h] at this; cases this
theorem bok_len {b : Bx} (h : (decide ((1 : Int) ≤ b.2.length ∧ (b.2.length : Int) ≤ 4)) = false) : bok b = false := by
  cases hq : bok b
  · rfl
  · have := bok_iff.1 hq
    have h := of_decide_eq_false h
    omega
theorem bok_key {b : Bx} (h : aok b.1 = false) : bok b = false := by
  cases hq : bok b
  · rfl
  · have := bok_iff.1 hq
    rw [h] at this; cases this.1
theorem bok_in {b : Bx} {x : Int} (hx : x ∈ b.2) (h : aok x = false) : bok b = false := by
  cases hq : bok b
  · rfl
  · have := (bok_iff.1 hq).2.2.2 x hx
    rw [h] at this; cases this
theorem bok_good {b : Bx} (h1 : aok b.1 = true) (h2 : (decide ((1 : Int) ≤ b.2.length ∧ (b.2.length : Int) ≤ 4)) = true) (h3 : ∀ a ∈ b.2, aok a = true) : bok b = true := by
  have h := of_decide_eq_true h2
  exact bok_iff.2 ⟨h1, by omega, by omega, h3⟩

set_option maxRecDepth 100000 in
set_option maxHeartbeats 2000000 in
theorem sboxes_any (v : Value) (l : List Bx) (w : World) (h : Bxs w v l) (hl : l.length ≤ 1048576) (hlen : ∀ b ∈ l, b.2.length ≤ 1048576) : Calls Try.prog 9 #[v] w fun e w' => e = .returned (.bool (bsok l)) ∧ Below w.heap.size w w' := by
  obtain ⟨a, c, rfl, h⟩ := h
  have HC := Lib.hid h
  have HLN := Lib.hid hlen
  clear h hlen
  go_enter Try.func9, Try.ntmps9
  go_wp2_with fail
  go_loopw [3] (fun iv wr => ∃ j : Nat, j ≤ l.length ∧ iv = .int .i64 (j : Int) ∧ Hid (∀ b ∈ l.take j, bok b = true) ∧ Hid (Below w.heap.size w wr)) (fun iv _ => l.length - (intOf iv).toNat)
  case atStart => exact ⟨0, Nat.zero_le _, rfl, Lib.hid (by simp), Lib.hid (Below.refl _ _)⟩
  case round =>
    obtain ⟨j, hj, rfl, HS, HB⟩ := hrel
    by_cases hlt : j < l.length
    · have hlt' : (j : Int) < (l.length : Int) := by omega
      obtain ⟨g, o, rfl, hc⟩ := HC.out (by rintro rfl; simp at hlt)
      obtain ⟨ra, rc, hf⟩ := hc j hlt
      have hg := World.block_lt_of_cell? w _ hf.1
      have hbl := HLN.out _ (takeB l j hlt).2
      have HT := Lib.hid (takeB l j hlt)
      have HBAD := Lib.hid (fun h => bsok_bad (takeB l j hlt).2 h)
      clear hc
      generalize l.getD j bxD = b at *
      obtain ⟨c0, c1, hi⟩ := hf
      have e0 := (HB.out.cell (p := ⟨g, o + j * 2, none⟩) hg).trans c0
      have e1 := (HB.out.cell (p := ⟨g, o + j * 2 + 1, none⟩) hg).trans c1
      have HKEY := Lib.hid (fun h => HBAD.out (bok_key (b := b) h))
      have HLEN := Lib.hid (fun h => HBAD.out (bok_len (b := b) h))
      have HIN := Lib.hid (fun x hx h => HBAD.out (bok_in (b := b) (x := x) hx h))
      have HGO := Lib.hid (fun h1 h2 h3 => bok_good (b := b) h1 h2 h3)
      have HI2 := Lib.hid hi.cells
      clear hi HBAD
      generalize hk : b.1 = key at *
      generalize hn : b.2 = ins at *
      have HTE : Hid (l.take (j + 1) = l.take j ++ [b]) := Lib.hid HT.out.1
      clear HT hk hn c0
      cases hq : aok key with
      | false =>
        have HQ := Lib.hid hq
        clear hq
        go_wp2_with fail
        refine (satom_any _ _).mono ?_
        rw [HQ.out]
        rintro e w1 ⟨rfl, rfl⟩
        go_wp2_with fail
        go_ret
        exact BoolPost' (HKEY.out HQ.out).symm HB.out
      | true =>
        have HQ := Lib.hid hq
        clear hq
        cases hq : decide ((1 : Int) ≤ ins.length ∧ (ins.length : Int) ≤ 4) with
        | false =>
          have HQ2 := Lib.hid hq
          clear hq
          go_wp2_with fail
          refine (satom_any _ _).mono ?_
          rw [HQ.out]
          rintro e w1 ⟨rfl, rfl⟩
          go_wp2_with fail
          refine (l6In_any _ _ _ _).mono ?_
          rw [HQ2.out]
          rintro e w1 ⟨rfl, rfl⟩
          go_wp2_with fail
          go_ret
          exact BoolPost' (HLEN.out HQ2.out).symm HB.out
        | true =>
          have HQ2 := Lib.hid hq
          clear hq
          go_wp2_with fail
          refine (satom_any _ _).mono ?_
          rw [HQ.out]
          rintro e w1 ⟨rfl, rfl⟩
          go_wp2_with fail
          refine (l6In_any _ _ _ _).mono ?_
          rw [HQ2.out]
          rintro e w1 ⟨rfl, rfl⟩
          go_wp2_with fail
          go_loopw [4] (fun iv wr => ∃ i : Nat, i ≤ ins.length ∧ iv = .int .i64 (i : Int) ∧ Hid (∀ a ∈ ins.take i, aok a = true) ∧ Hid (Below w.heap.size w wr)) (fun iv _ => ins.length - (intOf iv).toNat)
          case atStart => exact ⟨0, Nat.zero_le _, rfl, Lib.hid (by simp), HB⟩
          case round =>
            clear e0 e1
            obtain ⟨i, hi, rfl, HA, HB⟩ := hrel
            have e1 := (HB.out.cell (p := ⟨g, o + j * 2 + 1, none⟩) hg).trans c1
            by_cases hil : i < ins.length
            · have hil' : (i : Int) < (ins.length : Int) := by omega
              obtain ⟨g2, o2, rfl, hc2⟩ := HI2.out (by rintro rfl; simp at hil)
              have hcj := hc2 i hil
              have e2 : wr.cell? ⟨g2, o2 + i, none⟩ = some (.int .i64 (ins.getD i 0)) := (HB.out.cell (World.block_lt_of_cell? w _ hcj)).trans hcj
              have HT2 := Lib.hid (takeI ins i hil)
              clear hc2 hcj
              generalize ins.getD i 0 = x at *
              cases hq : aok x with
              | false =>
                have HQ3 := Lib.hid hq
                clear hq
                go_wp2_with fail
                refine (satom_any _ _).mono ?_
                rw [HQ3.out]
                rintro e w1 ⟨rfl, rfl⟩
                go_wp2_with fail
                go_ret
                exact BoolPost' (HIN.out _ HT2.out.2 HQ3.out).symm HB.out
              | true =>
                have HQ3 := Lib.hid hq
                clear hq
                go_wp2_with fail
                refine (satom_any _ _).mono ?_
                rw [HQ3.out]
                rintro e w1 ⟨rfl, rfl⟩
                go_wp2_with fail
                go_roundw
                case rel =>
                  refine ⟨i + 1, by omega, by go_num, Lib.hid fun a ha => ?_, HB⟩
                  rw [HT2.out.1, List.mem_append] at ha
                  rcases ha with ha | ha
                  · exact HA.out a ha
                  · rw [List.mem_singleton.1 ha]; exact HQ3.out
                case measure => simp [intOf]; omega
            · have hil' : ¬ (i : Int) < (ins.length : Int) := by omega
              have hs := HA.out
              rw [List.take_of_length_le (by omega)] at hs
              have HG := Lib.hid (HGO.out HQ.out HQ2.out hs)
              clear hs
              go_wp2_with fail
              go_roundw
              case rel =>
                refine ⟨j + 1, by omega, by go_num, Lib.hid fun a ha => ?_, HB⟩
                rw [HTE.out, List.mem_append] at ha
                rcases ha with ha | ha
                · exact HS.out a ha
                · rw [List.mem_singleton.1 ha]; exact HG.out
              case measure => simp [intOf]; omega
    · have hlt' : ¬ (j : Int) < (l.length : Int) := by omega
      have HK : Hid (bsok l = decide ((l.length : Int) ≤ 10)) := by
        have hs := HS.out
        rw [List.take_of_length_le (by omega)] at hs
        refine Lib.hid ?_
        unfold bsok
        rw [List.all_eq_true.2 hs, Bool.and_true, decide_eq_decide]; omega
      by_cases h20 : (l.length : Int) ≤ 10
      · have H20 := Lib.hid (decide_eq_true h20)
        go_wp2_with fail
        go_ret
        exact BoolPost' (by rw [HK.out]; simp [h20]) HB.out
      · have H20 := Lib.hid (decide_eq_false h20)
        go_wp2_with fail
        go_ret
        exact BoolPost' (by rw [HK.out]; simp [h20]) HB.out

end Go.Proofs.Ytakfohcnclmkbab
