/- Chapter 11, the program: which boxes are valid. -/
import Derived.Test.YtakfohcnclmkbabIVa
namespace Go.Proofs.Ytakfohcnclmkbab
open Go.RowKit
set_option linter.unusedVariables false
set_option linter.unusedSimpArgs false

def bxV (b : Bx) (ra : Option Addr) (rc : Nat) : Value := .agg #[.int .i64 b.1, .slice ra b.2.length rc]
theorem bok_split (b : Bx) : bok b = (aok b.1 && (decide (0 < (b.2.length : Int)) && (decide ((b.2.length : Int) ≤ 4) && b.2.all aok))) := by
  rw [Bool.eq_iff_iff, bok_iff]
  simp only [Bool.and_eq_true, decide_eq_true_iff, List.all_eq_true]
  constructor
  · rintro ⟨h1, h2, h3, h4⟩; exact ⟨h1, by omega, by omega, h4⟩
  · rintro ⟨h1, h2, h3, h4⟩; exact ⟨h1, by omega, by omega, h4⟩

set_option maxRecDepth 100000 in
set_option maxHeartbeats 1000000 in
theorem ivbox_any (b : Bx) (ra : Option Addr) (rc : Nat) (w : World) (h : Ints w (.slice ra b.2.length rc) b.2) (hl : b.2.length ≤ 1048576) :
    Calls Try.prog 32 #[bxV b ra rc] w fun e w' => e = .returned (.bool (bok b)) ∧ Below w.heap.size w w' := by
  have HS := Lib.hid (bok_split b)
  obtain ⟨key, ins⟩ := b
  simp only at h hl HS
  have IX := Lib.hid (fun W hW => ivatoms_any (.slice ra ins.length rc) ins 4 W hW hl)
  have HB0 : Hid (Below w.heap.size w (w.alloc (.cells #[.int .i64 key, .slice ra ins.length rc] 43))) := Lib.hid ((Below.refl _ _).alloc (Nat.le_refl _) _)
  have HV := Lib.hid h
  clear h
  unfold bxV
  cases hq : aok key with
  | false =>
    have HQ := Lib.hid hq
    clear hq
    go_enter Try.func32, Try.ntmps32
    go_wp2_with fail
    refine (iatom_any _ _).mono ?_
    rw [HQ.out]
    rintro e w' ⟨rfl, rfl⟩
    go_wp2_with fail
    go_ret
    exact BoolPost' (by rw [HS.out, HQ.out]; rfl) HB0.out
  | true =>
    have HQ := Lib.hid hq
    clear hq
    by_cases hn : 0 < (ins.length : Int)
    · have HN := Lib.hid (decide_eq_true hn)
      go_enter Try.func32, Try.ntmps32
      go_wp2_with fail
      refine (iatom_any _ _).mono ?_
      rw [HQ.out]
      rintro e w' ⟨rfl, rfl⟩
      go_wp2_with fail
      refine (IX.out _ (HV.out.below HB0.out)).mono ?_
      rintro e w1 ⟨rfl, hb⟩
      have HB1 := Lib.hid (HB0.out.trans (hb.mono HB0.out.size))
      clear hb
      go_wp2_with fail
      go_ret
      exact BoolPost' (by rw [HS.out, HQ.out, HN.out, Bool.true_and, Bool.true_and]) HB1.out
    · have HN := Lib.hid (decide_eq_false hn)
      go_enter Try.func32, Try.ntmps32
      go_wp2_with fail
      refine (iatom_any _ _).mono ?_
      rw [HQ.out]
      rintro e w' ⟨rfl, rfl⟩
      go_wp2_with fail
      go_ret
      exact BoolPost' (by rw [HS.out, HQ.out, HN.out]; rfl) HB0.out

set_option maxRecDepth 100000 in
set_option maxHeartbeats 1000000 in
theorem ibxnot_any (b : Bx) (ra : Option Addr) (rc : Nat) (w : World) (h : Ints w (.slice ra b.2.length rc) b.2) (hl : b.2.length ≤ 1048576) :
    Calls Try.prog 31 #[bxV b ra rc] w fun e w' => e = .returned (.bool (!bok b)) ∧ Below w.heap.size w w' := by
  have IX := Lib.hid (fun W hW => ivbox_any b ra rc W hW hl)
  have HB0 : Hid (Below w.heap.size w (w.alloc (.cells #[.int .i64 b.1, .slice ra b.2.length rc] 43))) := Lib.hid ((Below.refl _ _).alloc (Nat.le_refl _) _)
  have HV := Lib.hid h
  clear h
  unfold bxV at IX ⊢
  generalize bok b = q at *
  obtain ⟨key, ins⟩ := b
  simp only at HV IX HB0 ⊢
  go_enter Try.func31, Try.ntmps31
  go_wp2_with fail
  refine (IX.out _ (HV.out.below HB0.out)).mono ?_
  rintro e w1 ⟨rfl, hb⟩
  have HB1 := Lib.hid (HB0.out.trans (hb.mono HB0.out.size))
  clear hb
  go_wp2_with fail
  go_ret
  exact BoolPost' rfl HB1.out

set_option maxRecDepth 100000 in
set_option maxHeartbeats 1000000 in
theorem ibidx_any (v : Value) (l : List Bx) (w : World) (h : Bxs w v l) (hl : l.length ≤ 1048576) (hlen : ∀ b ∈ l, b.2.length ≤ 1048576) :
    Calls Try.prog 42 #[v, .func (.func 31) #[] #[]] w fun e w' => ∃ i : Int, e = .returned (.int .i64 i) ∧ decide (0 ≤ i) = !l.all bok ∧ Below w.heap.size w w' := by
  obtain ⟨a, c, rfl, h⟩ := h
  have HC := Lib.hid h
  have HLN := Lib.hid hlen
  clear h hlen
  go_enter Try.func42, Try.ntmps42
  go_wp2_with fail
  go_loopw [8] (fun iv wr => ∃ j : Nat, j ≤ l.length ∧ iv = .int .i64 (j : Int) ∧ Hid (∀ b ∈ l.take j, bok b = true) ∧ Hid (Below w.heap.size w wr)) (fun iv _ => l.length - (intOf iv).toNat)
  case atStart => exact ⟨0, Nat.zero_le _, rfl, Lib.hid (by simp), Lib.hid (Below.refl _ _)⟩
  case round =>
    obtain ⟨j, hj, rfl, HS, HB⟩ := hrel
    by_cases hlt : j < l.length
    · have hlt' : (j : Int) < (l.length : Int) := by omega
      obtain ⟨g, o, rfl, hc⟩ := HC.out (by rintro rfl; simp at hlt)
      obtain ⟨ra, rc, hf⟩ := hc j hlt
      have hg := World.block_lt_of_cell? w _ hf.1
      have HT := Lib.hid (takeB l j hlt)
      have hbl := HLN.out _ (takeB l j hlt).2
      clear hc
      generalize l.getD j bxD = b at *
      have hfw := hf.below HB.out
      have IX := Lib.hid (ibxnot_any b ra rc wr hfw.2.2 hbl)
      unfold bxV at IX
      obtain ⟨c0, c1, _⟩ := hfw
      clear hf hbl
      cases hq : bok b with
      | false =>
        have HQ := Lib.hid hq
        rw [hq] at IX
        clear hq
        obtain ⟨key, ins⟩ := b
        simp only at c0 c1 IX
        go_wp2_with fail
        refine IX.out.mono ?_
        rintro e w1 ⟨rfl, hb⟩
        have HB1 := Lib.hid (HB.out.trans (hb.mono HB.out.size))
        clear hb
        go_wp2_with fail
        go_ret
        refine ⟨_, rfl, ?_, HB1.out⟩
        have : l.all bok = false := by
          rw [List.all_eq_false]; exact ⟨(key, ins), HT.out.2, by rw [HQ.out]; simp⟩
        rw [this]; simp
      | true =>
        have HQ := Lib.hid hq
        rw [hq] at IX
        clear hq
        obtain ⟨key, ins⟩ := b
        simp only at c0 c1 IX
        go_wp2_with fail
        refine IX.out.mono ?_
        rintro e w1 ⟨rfl, hb⟩
        have HB1 := Lib.hid (HB.out.trans (hb.mono HB.out.size))
        clear hb
        go_wp2_with fail
        go_roundw
        case rel =>
          refine ⟨j + 1, by omega, by go_num, Lib.hid fun a ha => ?_, HB1⟩
          rw [HT.out.1, List.mem_append] at ha
          rcases ha with ha | ha
          · exact HS.out a ha
          · rw [List.mem_singleton.1 ha]; exact HQ.out
        case measure => simp [intOf]; omega
    · have hlt' : ¬ (j : Int) < (l.length : Int) := by omega
      have hs := HS.out
      rw [List.take_of_length_le (by omega)] at hs
      have HA : Hid (l.all bok = true) := Lib.hid (List.all_eq_true.2 hs)
      clear hs
      go_wp2_with fail
      go_ret
      exact ⟨-1, rfl, by rw [HA.out]; rfl, HB.out⟩

set_option maxRecDepth 100000 in
set_option maxHeartbeats 1000000 in
theorem ibcont_any (v : Value) (l : List Bx) (w : World) (h : Bxs w v l) (hl : l.length ≤ 1048576) (hlen : ∀ b ∈ l, b.2.length ≤ 1048576) :
    Calls Try.prog 30 #[v, .func (.func 31) #[] #[]] w fun e w' => e = .returned (.bool (!l.all bok)) ∧ Below w.heap.size w w' := by
  have IX := Lib.hid (ibidx_any v l w h hl hlen)
  obtain ⟨a, c, rfl, h⟩ := h
  clear h hlen
  go_enter Try.func30, Try.ntmps30
  go_wp2_with fail
  refine IX.out.mono ?_
  rintro e w1 ⟨i, rfl, hi, hb⟩
  have HI := Lib.hid hi
  have HB := Lib.hid hb
  clear hi hb
  go_wp2_with fail
  go_ret
  exact BoolPost' HI.out HB.out

set_option maxRecDepth 100000 in
set_option maxHeartbeats 1000000 in
theorem iboxes_any (v : Value) (l : List Bx) (w : World) (h : Bxs w v l) (hl : l.length ≤ 1048576) (hlen : ∀ b ∈ l, b.2.length ≤ 1048576) :
    Calls Try.prog 11 #[v] w fun e w' => e = .returned (.bool (bsok l)) ∧ Below w.heap.size w w' := by
  have IX := Lib.hid (ibcont_any v l w h hl hlen)
  obtain ⟨a, c, rfl, h⟩ := h
  clear h hlen
  by_cases hn : (l.length : Int) ≤ 10
  · have HN : Hid (bsok l = l.all bok) := Lib.hid (by unfold bsok; rw [decide_eq_true (by omega), Bool.true_and])
    go_enter Try.func11, Try.ntmps11
    go_wp2_with fail
    refine IX.out.mono ?_
    rintro e w1 ⟨rfl, hb⟩
    have HB := Lib.hid hb
    clear hb
    go_wp2_with fail
    go_ret
    exact BoolPost' (by rw [HN.out]; first | done | (cases l.all bok <;> rfl)) HB.out
  · have HN : Hid (bsok l = false) := Lib.hid (by unfold bsok; rw [decide_eq_false (by omega)]; rfl)
    go_enter Try.func11, Try.ntmps11
    go_wp2_with fail
    go_ret
    exact BoolPost' (by rw [HN.out]) (Below.refl _ _)

end Go.Proofs.Ytakfohcnclmkbab
