/- Which lists of registers are valid: the program's (slices.ContainsFunc with a closure) and the model's. -/
import Derived.Test.YtlhjhdlpejpooabRgs
import Derived.Test.YtlhjhdlpejpooabIRv
namespace Go.Proofs.Ytlhjhdlpejpooab
open Go.RowKit
set_option linter.unusedVariables false
set_option linter.unusedSimpArgs false

set_option maxRecDepth 100000 in
set_option maxHeartbeats 1000000 in
theorem notok_any (n : Int) (v : Value) (l : List Tic) (w : World) (hs : Tics w v l) (hl : l.length ≤ 1048576) : Calls Try.prog 81 #[.agg #[.int .i64 n, v]] w (BoolB w (!decide (regok (n, l)))) := by
  have U : Below w.heap.size w (w.alloc (.cells #[.int .i64 n, v] 28)) := (Below.refl _ _).alloc (Nat.le_refl _) _
  have HC := Lib.hid (ireg_any n v l (w.alloc (.cells #[.int .i64 n, v] 28)) (hs.below U) hl)
  have HU := Lib.hid U
  obtain ⟨a, c, rfl, _⟩ := hs
  clear U
  obtain ⟨q, hq⟩ : ∃ q, decide (regok (n, l)) = q := ⟨_, rfl⟩
  rw [hq] at HC ⊢
  clear hq
  go_enter Try.func81, Try.ntmps81
  go_wp2_with fail
  refine HC.out.mono ?_
  rintro e w1 ⟨rfl, hb⟩
  have B1 := Lib.hid (HU.out.trans (hb.mono HU.out.size))
  clear hb
  go_wp2_with fail
  go_ret
  exact ⟨rfl, B1.out⟩

def FoundBad (w : World) (L : List Reg) (e : Ending) (w' : World) : Prop := ∃ z : Int, e = .returned (.int .i64 z) ∧ (0 ≤ z ↔ ∃ r ∈ L, ¬ regok r) ∧ Below w.heap.size w w'
set_option maxRecDepth 100000 in
set_option maxHeartbeats 2000000 in
theorem idxbad_any (v : Value) (L : List Reg) (w : World) (h : Rgs False w v L) (hl : L.length ≤ 1048576) (hlen : ∀ r ∈ L, r.2.length ≤ 1048576) :
    Calls Try.prog 97 #[v, .func (.func 81) #[] #[]] w (FoundBad w L) := by
  obtain ⟨a, c, rfl, hcap, h⟩ := h
  have HC := Lib.hid h
  have HLN := Lib.hid hlen
  clear h hlen hcap
  go_enter Try.func97, Try.ntmps97
  go_wp2_with fail
  go_loopw [8] (fun iv wr => ∃ j : Nat, j ≤ L.length ∧ iv = .int .i64 (j : Int) ∧ Hid (∀ r ∈ L.take j, regok r) ∧ Hid (Below w.heap.size w wr)) (fun iv _ => L.length - (intOf iv).toNat)
  case atStart => exact ⟨0, Nat.zero_le _, rfl, Lib.hid (by simp), Below.refl _ _⟩
  case round =>
    obtain ⟨j, hj, rfl, HS, HB⟩ := hrel
    by_cases hlt : j < L.length
    · have hlt' : (j : Int) < (L.length : Int) := by omega
      obtain ⟨g, o, rfl, hc⟩ := HC.out (by rintro rfl; simp at hlt)
      obtain ⟨s, hr⟩ := hc j hlt
      have hr2 := hr.below HB.out
      have hbd := HLN.out _ (takeRg L j hlt).2
      have HTK := Lib.hid (takeRg L j hlt)
      clear hc hr
      generalize L.getD j rgD = r at *
      obtain ⟨n, m⟩ := r
      obtain ⟨c0, c1, ht, _⟩ := hr2
      simp only at c0 c1 hbd
      have CN := Lib.hid (notok_any n s m wr ht.1 hbd)
      obtain ⟨av, cv, rfl⟩ : ∃ av cv, s = .slice av m.length cv := by obtain ⟨_, _, av, cv, e, _⟩ := ht; exact ⟨av, cv, e⟩
      clear ht
      by_cases hok : regok (n, m)
      · rw [decide_eq_true hok] at CN
        have HS2 : Hid (∀ r ∈ L.take (j + 1), regok r) := Lib.hid (by
          rw [HTK.out.1]
          intro r hr
          rcases List.mem_append.1 hr with hr | hr
          · exact HS.out r hr
          · rw [List.mem_singleton.1 hr]; exact hok)
        clear hok
        go_wp2_with fail
        refine CN.out.mono ?_
        rintro e w1 ⟨rfl, hb⟩
        have B1 := Lib.hid (HB.out.trans (hb.mono HB.out.size))
        clear hb c0 c1
        go_wp2_with fail
        go_roundw
        case rel => exact ⟨j + 1, by omega, by go_num, HS2, B1⟩
        case measure => simp [intOf]; omega
      · rw [decide_eq_false hok] at CN
        have HE : Hid (0 ≤ (j : Int) ↔ ∃ r ∈ L, ¬ regok r) := Lib.hid ⟨fun _ => ⟨_, HTK.out.2, hok⟩, fun _ => by omega⟩
        clear hok
        go_wp2_with fail
        refine CN.out.mono ?_
        rintro e w1 ⟨rfl, hb⟩
        have B1 := Lib.hid (HB.out.trans (hb.mono HB.out.size))
        clear hb c0 c1
        go_wp2_with fail
        go_ret
        exact ⟨_, rfl, HE.out, B1.out⟩
    · have hlt' : ¬ (j : Int) < (L.length : Int) := by omega
      rw [List.take_of_length_le (by omega)] at HS
      go_wp2_with fail
      go_ret
      exact ⟨-1, rfl, ⟨fun h => absurd h (by decide), fun ⟨r, hr, hn⟩ => absurd (HS.out r hr) hn⟩, HB.out⟩

set_option maxRecDepth 100000 in
set_option maxHeartbeats 1000000 in
theorem hasbad_any (v : Value) (L : List Reg) (w : World) (h : Rgs False w v L) (hl : L.length ≤ 1048576) (hlen : ∀ r ∈ L, r.2.length ≤ 1048576) :
    Calls Try.prog 80 #[v, .func (.func 81) #[] #[]] w (BoolB w (decide (∃ r ∈ L, ¬ regok r))) := by
  have CI := Lib.hid (idxbad_any v L w h hl hlen)
  obtain ⟨a, c, rfl, _, _⟩ := h
  clear hlen
  go_enter Try.func80, Try.ntmps80
  go_wp2_with fail
  refine CI.out.mono ?_
  rintro e w1 ⟨z, rfl, hz, hb⟩
  have HZ : Hid (decide (0 ≤ z) = decide (∃ r ∈ L, ¬ regok r)) := Lib.hid (decide_eq_decide.2 hz)
  have B1 := Lib.hid hb
  clear hz hb
  go_wp2_with fail
  go_ret
  exact ⟨ret_bool HZ.out, B1.out⟩

theorem sok_dec (L : List Reg) : decide (sok L) = (decide (1 ≤ (L.length : Int)) && (decide ((L.length : Int) ≤ 4) && !decide (∃ r ∈ L, ¬ regok r))) := by
  rw [Bool.eq_iff_iff]
  simp only [Bool.and_eq_true, decide_eq_true_eq, Bool.not_eq_true', decide_eq_false_iff_not]
  constructor
  · rintro ⟨⟨h1, h2⟩, h3⟩
    exact ⟨by omega, by omega, fun ⟨r, hr, hn⟩ => hn (h3 r hr)⟩
  · rintro ⟨h1, h2, h3⟩
    exact ⟨⟨by omega, by omega⟩, fun r hr => Decidable.byContradiction fun hn => h3 ⟨r, hr, hn⟩⟩
set_option maxRecDepth 100000 in
set_option maxHeartbeats 1000000 in
theorem ivalid_any (v : Value) (L : List Reg) (w : World) (h : Rgs False w v L) (hl : L.length ≤ 1048576) (hlen : ∀ r ∈ L, r.2.length ≤ 1048576) :
    Calls Try.prog 59 #[v] w (BoolB w (decide (sok L))) := by
  have CI := Lib.hid (hasbad_any v L w h hl hlen)
  obtain ⟨a, c, rfl, _, _⟩ := h
  have HD := Lib.hid (sok_dec L)
  clear hlen
  by_cases h1 : 1 ≤ (L.length : Int)
  · by_cases h2 : (L.length : Int) ≤ 4
    · have HE : Hid (decide (sok L) = !decide (∃ r ∈ L, ¬ regok r)) := Lib.hid (by rw [HD.out, decide_eq_true h1, decide_eq_true h2]; simp)
      have d1 := decide_eq_true h1
      have d2 := decide_eq_true h2
      have d3 : decide (1 ≤ L.length) = true := decide_eq_true (by omega)
      have d4 : decide (L.length ≤ 4) = true := decide_eq_true (by omega)
      obtain ⟨q, hq⟩ : ∃ q, decide (∃ r ∈ L, ¬ regok r) = q := ⟨_, rfl⟩
      rw [hq] at CI HE
      clear hq
      go_enter Try.func59, Try.ntmps59
      go_wp2_with fail
      refine CI.out.mono ?_
      rintro e w1 ⟨rfl, hb⟩
      have B1 := Lib.hid hb
      clear hb
      go_wp2_with fail
      go_ret
      exact ⟨ret_bool HE.out.symm, B1.out⟩
    · have HE : Hid (decide (sok L) = false) := Lib.hid (by rw [HD.out, decide_eq_false h2]; simp)
      have d1 := decide_eq_true h1
      have d2 := decide_eq_false h2
      have d3 : decide (1 ≤ L.length) = true := decide_eq_true (by omega)
      have d4 : decide (L.length ≤ 4) = false := decide_eq_false (by omega)
      go_enter Try.func59, Try.ntmps59
      go_wp2_with fail
      go_ret
      exact ⟨ret_bool HE.out.symm, Below.refl _ _⟩
  · have HE : Hid (decide (sok L) = false) := Lib.hid (by rw [HD.out, decide_eq_false h1]; simp)
    have d1 := decide_eq_false h1
    have d3 : decide (1 ≤ L.length) = false := decide_eq_false (by omega)
    go_enter Try.func59, Try.ntmps59
    go_wp2_with fail
    go_ret
    exact ⟨ret_bool HE.out.symm, Below.refl _ _⟩

set_option maxRecDepth 100000 in
set_option maxHeartbeats 2000000 in
theorem svalid_any (v : Value) (L : List Reg) (w : World) (h : Rgs False w v L) (hl : L.length ≤ 1048576) (hlen : ∀ r ∈ L, r.2.length ≤ 1048576) :
    Calls Try.prog 57 #[v] w (BoolB w (decide (sok L))) := by
  obtain ⟨a, c, rfl, hcap, h⟩ := h
  have HC := Lib.hid h
  have HLN := Lib.hid hlen
  clear h hlen hcap
  go_enter Try.func57, Try.ntmps57
  go_wp2_with fail
  go_loopw [3] (fun iv wr => ∃ j : Nat, j ≤ L.length ∧ iv = .int .i64 (j : Int) ∧ Hid (∀ r ∈ L.take j, regok r) ∧ Hid (Below w.heap.size w wr)) (fun iv _ => L.length - (intOf iv).toNat)
  case atStart => exact ⟨0, Nat.zero_le _, rfl, Lib.hid (by simp), Below.refl _ _⟩
  case round =>
    obtain ⟨j, hj, rfl, HS, HB⟩ := hrel
    by_cases hlt : j < L.length
    · have hlt' : (j : Int) < (L.length : Int) := by omega
      obtain ⟨g, o, rfl, hc⟩ := HC.out (by rintro rfl; simp at hlt)
      obtain ⟨s, hr⟩ := hc j hlt
      have hr2 := hr.below HB.out
      have hbd := HLN.out _ (takeRg L j hlt).2
      have HTK := Lib.hid (takeRg L j hlt)
      clear hc hr
      generalize L.getD j rgD = r at *
      obtain ⟨n, m⟩ := r
      obtain ⟨c0, c1, ht, _⟩ := hr2
      simp only at c0 c1 hbd
      have CN := Lib.hid (sreg_any n s m wr ht.1 hbd)
      obtain ⟨av, cv, rfl⟩ : ∃ av cv, s = .slice av m.length cv := by obtain ⟨_, _, av, cv, e, _⟩ := ht; exact ⟨av, cv, e⟩
      clear ht
      by_cases hok : regok (n, m)
      · rw [decide_eq_true hok] at CN
        have HS2 : Hid (∀ r ∈ L.take (j + 1), regok r) := Lib.hid (by
          rw [HTK.out.1]
          intro r hr
          rcases List.mem_append.1 hr with hr | hr
          · exact HS.out r hr
          · rw [List.mem_singleton.1 hr]; exact hok)
        clear hok
        go_wp2_with fail
        refine CN.out.mono ?_
        rintro e w1 ⟨rfl, hb⟩
        have B1 := Lib.hid (HB.out.trans (hb.mono HB.out.size))
        clear hb c0 c1
        go_wp2_with fail
        go_roundw
        case rel => exact ⟨j + 1, by omega, by go_num, HS2, B1⟩
        case measure => simp [intOf]; omega
      · rw [decide_eq_false hok] at CN
        have HE : Hid (decide (sok L) = false) := Lib.hid (decide_eq_false fun h => hok (h.2 _ HTK.out.2))
        clear hok
        go_wp2_with fail
        refine CN.out.mono ?_
        rintro e w1 ⟨rfl, hb⟩
        have B1 := Lib.hid (HB.out.trans (hb.mono HB.out.size))
        clear hb c0 c1
        go_wp2_with fail
        go_ret
        exact ⟨ret_bool HE.out.symm, B1.out⟩
    · have hlt' : ¬ (j : Int) < (L.length : Int) := by omega
      rw [List.take_of_length_le (by omega)] at HS
      have HE : Hid (decide (sok L) = decide (1 ≤ (L.length : Int) ∧ (L.length : Int) ≤ 4)) := Lib.hid (decide_eq_decide.2 ⟨fun h => ⟨by have := h.1; omega, by have := h.1; omega⟩, fun h => ⟨⟨by omega, by omega⟩, HS.out⟩⟩)
      go_wp2_with fail
      refine (l6In_any _ 1 4 wr).mono ?_
      rintro e w1 ⟨rfl, rfl⟩
      go_wp2_with fail
      go_ret
      exact ⟨ret_bool (by first | exact HE.out.symm | (rw [HE.out]; done) | (rw [HE.out]; simp; done) | (rw [HE.out]; simp; omega)), HB.out⟩

end Go.Proofs.Ytlhjhdlpejpooab
