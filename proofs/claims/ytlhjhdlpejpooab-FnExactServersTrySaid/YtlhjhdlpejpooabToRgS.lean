/- szRegisterS, toRegisterS, eqRegisterS. -/
import Derived.Test.YtlhjhdlpejpooabRowVs
import Derived.Test.YtlhjhdlpejpooabToReg
import Derived.Test.YtlhjhdlpejpooabEqReg
import Derived.Test.YtlhjhdlpejpooabTgs
import Derived.Deep.RegionHeld3
namespace Go.Proofs.Ytlhjhdlpejpooab
open Go.RowKit
set_option linter.unusedVariables false
set_option linter.unusedSimpArgs false

def SzsPost (w : World) (l : List Reg) (e : Ending) (w' : World) : Prop := ∃ n : Int, e = .returned (.int .i64 n) ∧ Below w.heap.size w w' ∧ (n < 0 ∨ (¬ n < 0 ∧ l.length ≤ 1048576 ∧ ∀ b ∈ l, b.2.length ≤ 1048576))
set_option maxRecDepth 100000 in
set_option maxHeartbeats 2000000 in
theorem szrs_any (v : Value) (l : List Reg) (w : World) (h : RgB w v l) (hl : l.length ≤ 9223372036854775807) (hlen : ∀ b ∈ l, b.2.length ≤ 9223372036854775807) :
    Calls Try.prog 20 #[v, .int .i64 1048576] w (SzsPost w l) := by
  obtain ⟨a, c, rfl, h⟩ := h
  have HC := Lib.hid h
  have HLN := Lib.hid hlen
  clear h hlen
  have v1 : IntKind.i64.wrap (1048576 - (l.length : Int)) = 1048576 - (l.length : Int) := IntWalk.i64_in _ (by omega)
  by_cases hneg : 1048576 - (l.length : Int) < 0
  · go_enter Try.func20, Try.ntmps20
    go_wp2_with fail
    go_ret
    exact ⟨-1, rfl, Below.refl _ _, .inl (by omega)⟩
  go_enter Try.func20, Try.ntmps20
  go_wp2_with fail
  go_loopw [1, 5] (fun kv iv wr => ∃ (j : Nat) (n : Int), j ≤ l.length ∧ iv = .int .i64 (j : Int) ∧ kv = .int .i64 n ∧ (0 ≤ n ∧ n ≤ 1048576) ∧ Hid (∀ b ∈ l.take j, b.2.length ≤ 1048576) ∧ Hid (Below w.heap.size w wr)) (fun _ iv _ => l.length - (intOf iv).toNat)
  case atStart => exact ⟨0, 1048576 - (l.length : Int), Nat.zero_le _, rfl, rfl, by omega, fun f hf => by simp at hf, Below.refl _ _⟩
  case round =>
    obtain ⟨j, n, hj, rfl, rfl, hn, HS, HB⟩ := hrel
    by_cases hlt : j < l.length
    · have hlt' : (j : Int) < (l.length : Int) := by omega
      obtain ⟨g, o, rfl, hc⟩ := HC.out (by rintro rfl; simp at hlt)
      obtain ⟨ra, rc, hf⟩ := hc j hlt
      have hfw := hf.below HB.out
      have hbd := HLN.out _ (takeRg l j hlt).2
      have HTK := Lib.hid (takeRg l j hlt).1
      generalize l.getD j rgD = f at *
      obtain ⟨key, ins⟩ := f
      obtain ⟨c0, c1, hr⟩ := hfw
      simp only at c0 c1 hbd
      have HZ := Lib.hid (fun W => szreg_any key ra ins.length rc n W hn.1 hn.2 hbd)
      have hcs := szI_cases ins.length n hn.1 hn.2
      generalize szI ins.length n = z at *
      clear hf hc hr hbd
      go_wp2_with fail
      refine (HZ.out _).mono ?_
      rintro e w1 ⟨rfl, hb1⟩
      have HB1 := Lib.hid (HB.out.trans (hb1.mono HB.out.size))
      clear hb1 c0 c1
      rcases hcs with hcs | ⟨q0, q1, q2⟩
      · subst hcs
        go_wp2_with fail
        go_ret
        exact ⟨-1, rfl, HB1.out, .inl (by omega)⟩
      · have hz0 : ¬ z < 0 := by omega
        have HS2 : Hid (∀ f ∈ l.take (j + 1), f.2.length ≤ 1048576) := Lib.hid (fun f' hf' => by
          rw [HTK.out] at hf'
          rcases List.mem_append.1 hf' with hf' | hf'
          · exact HS.out f' hf'
          · have : f' = (key, ins) := by simpa using hf'
            subst this; exact q2)
        go_wp2_with fail
        go_roundw
        case rel => exact ⟨j + 1, z, by omega, by go_num, rfl, by omega, HS2, HB1⟩
        case measure => simp [intOf]; omega
    · have hlt' : ¬ (j : Int) < (l.length : Int) := by omega
      have HS2 : Hid (∀ f ∈ l, f.2.length ≤ 1048576) := Lib.hid (by have := HS.out; rw [List.take_of_length_le (by omega)] at this; exact this)
      go_wp2_with fail
      go_ret
      exact ⟨n, rfl, HB.out, .inr ⟨by omega, by omega, HS2.out⟩⟩

set_option maxRecDepth 100000 in
set_option maxHeartbeats 2000000 in
theorem tors_any (v : Value) (l : List Reg) (w : World) (h : RgB w v l) (hl : l.length ≤ 1048576) (hlen : ∀ b ∈ l, b.2.length ≤ 1048576) :
    Calls Try.prog 22 #[v] w fun e w' => e = .returned (.slice (some ⟨w.heap.size, 0, none⟩) l.length l.length) ∧ Below w.heap.size w w' ∧ (∃ f : Nat → Value, ToG w' w.heap.size l.length f (fun i => l.getD i rgD) l.length ∧ ∀ i, i < l.length → (f i).ownBlock ≠ none) ∧ w.heap.size < w'.heap.size := by
  obtain ⟨i0, hi, hz0, hz1, hz2⟩ := info_parts try_infoRegister
  have HI := Lib.hid hi
  obtain ⟨a, c, rfl, h⟩ := h
  have HC := Lib.hid h
  have HLN := Lib.hid hlen
  clear hi h hlen
  go_enter Try.func22, Try.ntmps22
  go_wp2_with (at_make; refine wpList_make_full _ rfl _ _ 43 rfl w.heap.size 28 i0 (.agg #[.int .i64 0, .slice none 0 0]) 2 Try.underlying43 HI.out hz0 hz1 .i64 .i64 _ _ l.length rfl rfl rfl rfl (by rw [hz2]; omega) (by unfold maxLen; omega) (Nat.le_refl _) ?_)
  intro w1 hown hgrow
  have B1 : Hid (Below w.heap.size w w1) := Lib.hid ((Below.refl _ _).grown hgrow (Nat.le_refl _) (fun k hk => by cases hk))
  have W1 : Hid (Wr w1 w.heap.size (l.length * 2)) := Lib.hid (fun k hk => by
    have hc := hown.cellAt k (by omega)
    have hz : k < (madeCells #[Value.int .i64 0, .slice none 0 0] (l.length * 2)).toList.length := by simp [madeCells]; omega
    rw [List.getElem?_eq_getElem hz] at hc
    exact ⟨⟨_, hc⟩, hown.frozenAt k⟩)
  have hsz1 : w.heap.size + 1 ≤ w1.heap.size := by
    obtain ⟨_, ⟨e, _⟩ | ⟨g, c, cur, e, _, hg, _⟩⟩ := hown
    · cases e
    · injection e with e; injection e with e; injection e with e
      have := (Array.getElem?_eq_some_iff.1 hg).1
      omega
  have HZ1 := Lib.hid hsz1
  clear hown hgrow hsz1
  go_wp2_with fail
  go_loopw [4] (fun iv wr => ∃ j : Nat, j ≤ l.length ∧ iv = .int .i64 (j : Int) ∧ Hid (Below w.heap.size w wr) ∧ Hid (Wr wr w.heap.size (l.length * 2)) ∧ Hid (∃ f : Nat → Value, ToG wr w.heap.size l.length f (fun i => l.getD i rgD) j ∧ ∀ i, i < j → (f i).ownBlock ≠ none) ∧ Hid (w.heap.size < wr.heap.size)) (fun iv _ => l.length - (intOf iv).toNat)
  case atStart => exact ⟨0, Nat.zero_le _, rfl, B1.out, W1.out, ⟨fun _ => .slice none 0 0, ⟨W1.out, fun i hi => by omega, fun i k _ h => by omega⟩, fun i hi => by omega⟩, HZ1⟩
  case round =>
    obtain ⟨j, hj, rfl, HB, HW, HT, HZ⟩ := hrel
    by_cases hlt : j < l.length
    · have hlt' : (j : Int) < (l.length : Int) := by omega
      obtain ⟨g, o, rfl, hc⟩ := HC.out (by rintro rfl; simp at hlt)
      obtain ⟨ra, rc, hf⟩ := hc j hlt
      have hfw := hf.below HB.out
      have hbd := HLN.out _ (takeRg l j hlt).2
      obtain ⟨f, hfe⟩ : ∃ f, l.getD j rgD = f := ⟨_, rfl⟩
      rw [hfe] at hfw hbd
      have HFE := Lib.hid hfe
      obtain ⟨key, ins⟩ := f
      obtain ⟨c0, c1, hr⟩ := hfw
      simp only at c0 c1 hr hbd
      have HR := Lib.hid hr
      have HTO := Lib.hid (fun W h => toreg_any key ins ra rc W h hbd)
      have hwz : w.heap.size + 1 ≤ wr.heap.size := HZ.out
      clear hf hc hr hbd hfe
      go_wp2_with fail
      refine (HTO.out _ HR.out).mono ?_
      rintro e w3 ⟨q, rc2, rfl, hb3, ho3⟩
      have HB3 := Lib.hid (HB.out.trans (hb3.mono HB.out.size))
      have HW3 := Lib.hid (HW.out.below hb3)
      have HST : Hid (∃ f : Nat → Value, ToG ((w3.setCell ⟨w.heap.size, j * 2, none⟩ (.int .i64 key)).setCell ⟨w.heap.size, j * 2 + 1, none⟩ (.slice (some ⟨q, 0, none⟩) ins.length rc2)) w.heap.size l.length f (fun i => l.getD i rgD) (j + 1) ∧ ∀ i, i < j + 1 → (f i).ownBlock ≠ none) := Lib.hid (by
        obtain ⟨f, hf1, hf2⟩ := HT.out
        have k := (hf1.below hb3).put (r := (key, ins)) (k := j) (m := j + 1) hlt (fun i hi => by omega) hwz ho3 (fun i hi q hq => hf1.lt i hi q hq)
        refine ⟨_, k.weak (Nat.le_refl _) (fun i hi => ?_), fun i hi => ?_⟩
        · by_cases e : i = j
          · subst e; simp only [if_pos]; exact HFE.out
          · simp only [if_neg e]
        · by_cases e : i = j
          · subst e; simp only [if_pos]; intro h; cases h
          · simp only [if_neg e]; exact hf2 i (by omega))
      obtain ⟨⟨u0, d0⟩, t0⟩ := HW3.out (j * 2) (by omega)
      obtain ⟨⟨u1, d1⟩, t1⟩ := HW3.out (j * 2 + 1) (by omega)
      have HZ3 : Hid (w.heap.size < w3.heap.size) := Lib.hid (Nat.lt_of_lt_of_le HZ.out hb3.size)
      clear hb3 ho3 c0 c1
      go_wp2_with fail
      go_roundw
      case rel => exact ⟨j + 1, by omega, by go_num, Lib.hid (Below.setCell (Below.setCell HB3.out (Nat.le_refl _) _) (Nat.le_refl _) _), Lib.hid ((HW3.out.set (j * 2) (.int .i64 key)).set (j * 2 + 1) (.slice (some ⟨q, 0, none⟩) ins.length rc2)), HST, Lib.hid (by have := HZ3.out; simpa [World.setCell] using this)⟩
      case measure => simp [intOf]; omega
    · have hlt' : ¬ (j : Int) < (l.length : Int) := by omega
      have hje : j = l.length := by omega
      have HF := HT
      rw [hje] at HF
      clear hje
      go_wp2_with fail
      go_ret
      exact ⟨rfl, HB.out, HF.out, HZ.out⟩

set_option maxRecDepth 100000 in
set_option maxHeartbeats 2000000 in
theorem eqrgs_any (v v' : Value) (l : List Reg) (w : World) (h : Rgs False w v l) (h' : Rgs False w v' l) (hl : l.length ≤ 1048576) (hlen : ∀ b ∈ l, b.2.length ≤ 1048576) :
    Calls Try.prog 24 #[v, v'] w fun e w' => e = .returned (.bool true) ∧ Below w.heap.size w w' := by
  obtain ⟨a, c, rfl, _, h⟩ := h
  obtain ⟨a', c', rfl, _, h'⟩ := h'
  have HC := Lib.hid h
  have HC' := Lib.hid h'
  have HLN := Lib.hid hlen
  have hll : ((l.length : Int) != (l.length : Int)) = false := by simp
  clear h h' hlen
  go_enter Try.func24, Try.ntmps24
  go_wp2_with fail
  go_loopw [5] (fun iv wr => ∃ j : Nat, j ≤ l.length ∧ iv = .int .i64 (j : Int) ∧ Hid (Below w.heap.size w wr)) (fun iv _ => l.length - (intOf iv).toNat)
  case atStart => exact ⟨0, Nat.zero_le _, rfl, Below.refl _ _⟩
  case round =>
    obtain ⟨j, hj, rfl, HB⟩ := hrel
    by_cases hlt : j < l.length
    · have hlt' : (j : Int) < (l.length : Int) := by omega
      obtain ⟨g, o, rfl, hc⟩ := HC.out (by rintro rfl; simp at hlt)
      obtain ⟨g', o', rfl, hc'⟩ := HC'.out (by rintro rfl; simp at hlt)
      obtain ⟨s, hf⟩ := hc j hlt
      obtain ⟨s', hf'⟩ := hc' j hlt
      have hfw := hf.below HB.out
      have hfw' := hf'.below HB.out
      have hbd := HLN.out _ (takeRg l j hlt).2
      generalize l.getD j rgD = f at *
      obtain ⟨key, ins⟩ := f
      obtain ⟨c0, c1, hr, _⟩ := hfw
      obtain ⟨d0, d1, hr', _⟩ := hfw'
      simp only at c0 c1 d0 d1 hr hr' hbd
      obtain ⟨hr, _, ra, rc, rfl, _, _⟩ := hr
      obtain ⟨hr', _, ra', rc', rfl, _, _⟩ := hr'
      have HSF : Hid (∀ W, Below wr.heap.size wr W → Calls Try.prog 14 #[.agg #[.int .i64 key, .slice ra ins.length rc], .agg #[.int .i64 key, .slice ra' ins.length rc']] W fun e w' => e = .returned (.bool true) ∧ Below W.heap.size W w') := Lib.hid fun W hW => eqreg_any key ins ra ra' rc rc' W (hr.below hW) (hr'.below hW) hbd
      clear hf hf' hc hc' hr hr' hbd
      have hlg : g < wr.heap.size := World.block_lt_of_cell? wr _ c0
      have hlg' : g' < wr.heap.size := World.block_lt_of_cell? wr _ d0
      have kS : wr.cell? ⟨g, o + j * 2, none⟩ = some (.int .i64 key) ∧ wr.cell? ⟨g, o + j * 2 + 1, none⟩ = some (.slice ra ins.length rc) ∧ wr.cell? ⟨g', o' + j * 2, none⟩ = some (.int .i64 key) ∧ wr.cell? ⟨g', o' + j * 2 + 1, none⟩ = some (.slice ra' ins.length rc') := ⟨c0, c1, d0, d1⟩
      go_wp2_with fail
      go_region_held3 (fun w' => w'.cell? ⟨g, o + j * 2, none⟩ = some (.int .i64 key) ∧ w'.cell? ⟨g, o + j * 2 + 1, none⟩ = some (.slice ra ins.length rc) ∧ w'.cell? ⟨g', o' + j * 2, none⟩ = some (.int .i64 key) ∧ w'.cell? ⟨g', o' + j * 2 + 1, none⟩ = some (.slice ra' ins.length rc')) (first | assumption | exact kS | exact kS1)
        (first
          | (go_at_call 14; refine (HSF.out _ (by first | exact Below.refl _ _ | exact (Below.refl _ _).drew | exact (Below.refl _ _).drew.drew)).mono ?_; rintro e w1 ⟨rfl, hb0⟩; have hb1 : Below wr.heap.size wr w1 := (by first | exact hb0 | exact (Below.refl _ _).drew.trans hb0 | exact (Below.refl _ _).drew.drew.trans hb0); have kS1 : w1.cell? ⟨g, o + j * 2, none⟩ = some (.int .i64 key) ∧ w1.cell? ⟨g, o + j * 2 + 1, none⟩ = some (.slice ra ins.length rc) ∧ w1.cell? ⟨g', o' + j * 2, none⟩ = some (.int .i64 key) ∧ w1.cell? ⟨g', o' + j * 2 + 1, none⟩ = some (.slice ra' ins.length rc') := ⟨(hb1.cell (p := ⟨g, o + j * 2, none⟩) hlg).trans c0, (hb1.cell (p := ⟨g, o + j * 2 + 1, none⟩) hlg).trans c1, (hb1.cell (p := ⟨g', o' + j * 2, none⟩) hlg').trans d0, (hb1.cell (p := ⟨g', o' + j * 2 + 1, none⟩) hlg').trans d1⟩))
      have HB1 := Lib.hid (HB.out.trans (hb1.mono HB.out.size))
      go_wp2_with fail
      go_roundw
      case rel => exact ⟨j + 1, by omega, by go_num, HB1⟩
      case measure => simp [intOf]; omega
    · have hlt' : ¬ (j : Int) < (l.length : Int) := by omega
      go_wp2_with fail
      go_ret
      exact ⟨rfl, HB.out⟩
end Go.Proofs.Ytlhjhdlpejpooab
