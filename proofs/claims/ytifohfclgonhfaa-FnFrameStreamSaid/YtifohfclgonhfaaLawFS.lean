/- The law FnFrameStream: the walk. -/
import Derived.Test.YtifohfclgonhfaaRvK
import Derived.Test.YtifohfclgonhfaaIB
import Derived.Deep.QuietTactic
namespace Go.Proofs.Ytifohfclgonhfaa
open Go.RowKit
set_option linter.unusedVariables false
set_option linter.unusedSimpArgs false

/-- 'string(b)' of a slice of bytes that came in. -/
theorem convS_arg {w : World} {a : Option Addr} {len cap : Nat} {zs : List Int} (h : IsRow .u8 w a len cap zs) :
    (convert 22 9 (.slice a len cap)).run Try.prog w = .ok (.string (strOfNums (zs.take len))) w := by
  rcases h with ⟨rfl, rfl, rfl, rfl⟩ | ⟨x, rfl, hl, hm, hz, hcell, hwz⟩
  · exact run_convert_bytes_nil (P := Try.prog) w 22 5 Try.underlying22 Try.underlying5 0 0 9 Try.underlying9
  · by_cases h0 : len = 0
    · subst h0
      rw [run_convert_bytes_string w 22 9 5 _ 0 cap Try.underlying22 Try.underlying5 Try.underlying9]
      have hl := run_loadCells_list (P := Try.prog) w x [] (fun j v hj => by simp at hj)
      rw [run_bytesToString w x 0 cap [] hl]
      rfl
    · obtain ⟨ab, off, spot⟩ := x
      have hspot : spot = none := by
        have := World.cell?_spot (hcell 0 (by omega))
        simpa [Addr.add] using this
      subst hspot
      refine run_convert_bytes_arg (P := Try.prog) w 22 5 Try.underlying22 Try.underlying5 ab off len cap (zs.take len) (by simp; omega) ?_ 9 Try.underlying9
      intro i hi
      have e : (⟨ab, off, none⟩ : Addr).add i = ⟨ab, off + i, none⟩ := by unfold Addr.add; split <;> simp_all
      rw [← e, hcell i (by omega)]
      simp [List.getD_eq_getElem?_getD, List.getElem?_take, hi]
theorem row_take {w : World} {a : Option Addr} {len cap m : Nat} {zs : List Int} (h : IsRow .u8 w a len cap zs) (hm : m ≤ len) : IsRow .u8 w a m cap zs ∧ m ≤ cap := by
  rcases h with ⟨rfl, rfl, rfl, rfl⟩ | ⟨x, rfl, hl, h1, h2, h3, h4⟩
  · have : m = 0 := by omega
    subst this
    exact ⟨.inl ⟨rfl, rfl, rfl, rfl⟩, Nat.le_refl _⟩
  · exact ⟨.inr ⟨x, rfl, by omega, h1, h2, h3, h4⟩, by omega⟩
theorem convS_any {w : World} {a : Option Addr} {len cap : Nat} {zs : List Int} (h : IsRow .u8 w a len cap zs) :
    ∃ t : ByteArray, t.size = len ∧ ∀ w', Below w.heap.size w w' → (convert 22 9 (.slice a len cap)).run Try.prog w' = .ok (.string t) w' := by
  refine ⟨strOfNums (zs.take len), ?_, fun w' hb => convS_arg (IsRow.keep h (fun x _ _ i v hv => (hb.cell (World.block_lt_of_cell? w _ hv)).trans hv))⟩
  rw [size_nums]
  rcases h with ⟨rfl, rfl, rfl, rfl⟩ | ⟨x, rfl, hl, hm, hz, hcell, hwz⟩
  · rfl
  · simp; omega
theorem fok_stream (b : Int) (d : ByteArray) : fok ⟨3, 0, b, 0, d, []⟩ = decide (0 ≤ b ∧ b ≤ 30 ∧ d.size ≤ 12 ∧ b + (d.size : Int) ≤ 30) := by
  rw [Bool.eq_iff_iff, decide_eq_true_iff]
  constructor
  · intro h
    have h1 := fok_cases h
    have h2 := (fok_parts h).2.2.2
    simp at h1 h2
    omega
  · intro h
    unfold fok fun1 fun2 ffld fnum
    simp
    omega

set_option maxRecDepth 100000 in
set_option maxHeartbeats 4000000 in
theorem fstream_walk (a : Option Addr) (len cap : Nat) (zs : List Int) (a2 : Option Addr) (len2 cap2 : Nat) (zs2 : List Int) (w : World) (h : IsRow .u8 w a len cap zs) (h2 : IsRow .u8 w a2 len2 cap2 zs2) :
    Calls Try.prog 14 #[.slice a len cap, .slice a2 len2 cap2] w fun e w' => e = .returned (.bool true) ∧ Below w.heap.size w w' := by
  have H := Lib.hid h
  by_cases hl : 1048576 < len
  · clear h h2
    go_enter Try.func14, Try.ntmps14
    go_wp2
    go_ret
    exact ⟨rfl, Below.refl _ _⟩
  by_cases hl2 : 1048576 < len2
  · clear h h2
    go_enter Try.func14, Try.ntmps14
    go_wp2
    go_ret
    exact ⟨rfl, Below.refl _ _⟩
  obtain ⟨m, hm⟩ : ∃ m : Nat, len2 % 14 = m := ⟨_, rfl⟩
  have hm1 : m ≤ len2 := by rw [← hm]; exact Nat.mod_le _ _
  have hm2 : m < 14 := by omega
  have hmod : Int.tmod (len2 : Int) 14 = (m : Int) := by rw [← hm]; rfl
  obtain ⟨hrow, hmc⟩ := row_take h2 hm1
  obtain ⟨d, hd, hcv⟩ := convS_any hrow
  have HCV := Lib.hid hcv
  have HD := Lib.hid hd
  have hmin : ¬ (m : Int) > (len2 : Int) := by omega
  have hmin2 : ¬ (len2 : Int) < (m : Int) := by omega
  have hmn : min (len2 : Int) (m : Int) = (m : Int) := by omega
  have HMN := Lib.hid hmn
  clear hmn
  have hm3 : (0 : Int) ≤ (m : Int) := by omega
  have hm4 : (m : Int) ≤ (cap2 : Int) := by omega
  clear h h2 hm hcv hrow hd
  go_enter Try.func14, Try.ntmps14
  go_wp2_with fail
  refine (drawRp_any a len cap zs w H.out).mono ?_
  rintro e w1 ⟨rd, fi, li, v, l, b, dd, fin, rfl, hb1, ho1, hv1, _, hob, _⟩
  obtain ⟨g, c, rfl, _, _, _⟩ := ho1.sl hv1
  have HB1 : Hid (Below w.heap.size w (w1.alloc (.cells #[.int .i64 rd, .slice (some ⟨g, 0, none⟩) l.length c, .int .i64 fi, .int .i64 li] 47))) := Lib.hid (hb1.alloc hb1.size _)
  clear hb1 ho1 hv1
  go_upto_region 4 with fail
  generalize hW1 : (w1.alloc (.cells #[.int .i64 rd, .slice (some ⟨g, 0, none⟩) l.length c, .int .i64 fi, .int .i64 li] 47)) = W1 at *
  clear hW1
  have hc1 := HCV.out W1 HB1.out
  have hmn := HMN.out
  go_upto_region 5 with fail
  clear hmn hc1 hmod hmin hmin2
  have hd13 : d.size ≤ 13 := by have := HD.out; omega
  have IV := Lib.hid (fun W h => ifok_any ⟨3, 0, b, 0, d, []⟩ (.slice none 0 0) W h (by simp) (by show d.size ≤ 2097152; omega))
  have HF := Lib.hid (fok_stream b d)
  have FX := Lib.hid (Frm.new W1 25 [.int .i64 3, .int .i64 0, .int .i64 b, .int .i64 0, .string d, .slice none 0 0])
  have HB2 : Hid (Below w.heap.size w (W1.alloc (.cells #[.int .i64 3, .int .i64 0, .int .i64 b, .int .i64 0, .string d, .slice none 0 0] 25))) := Lib.hid (HB1.out.alloc HB1.out.size _)
  go_upto_region 6 with fail
  generalize hW2 : (W1.alloc (.cells #[.int .i64 3, .int .i64 0, .int .i64 b, .int .i64 0, .string d, .slice none 0 0] 25)) = W2 at *
  clear hW2
  have q0 := FX.out 0
  have q1 := FX.out 1
  have q2 := FX.out 2
  have q3 := FX.out 3
  have q4 := FX.out 4
  have q5 := FX.out 5
  have RN : Hid (Rngs W2 (.slice none 0 0) []) := Lib.hid ⟨none, 0, rfl, fun h => absurd rfl h⟩
  unfold frV at IV
  have hwb : IntKind.i64.wrap (b + (d.size : Int)) = b + (d.size : Int) := IntWalk.i64_in _ (by omega)
  by_cases hb0 : 0 ≤ b
  · have hb0' : b ≥ 0 := hb0
    by_cases hb30 : b ≤ 30
    · by_cases hd12 : (d.size : Int) ≤ 12
      · by_cases hs30 : b + (d.size : Int) ≤ 30
        · have hq : True := trivial
          have HF2 : Hid (fok ⟨3, 0, b, 0, d, []⟩ = true) := Lib.hid (by rw [HF.out]; exact decide_eq_true (by omega))
          go_wp2_with fail
          refine (IV.out W2 RN.out).mono ?_
          rintro e w3 hpost
          unfold BoolPost at hpost
          rw [HF2.out] at hpost
          obtain ⟨rfl, hb3⟩ := hpost
          have HB3 := Lib.hid (HB2.out.trans (hb3.mono HB2.out.size))
          clear hb3
          go_wp2_with fail
          go_ret
          exact ⟨rfl, HB3.out⟩
        · have hq : True := trivial
          have HF2 : Hid (fok ⟨3, 0, b, 0, d, []⟩ = false) := Lib.hid (by rw [HF.out]; exact decide_eq_false (by omega))
          go_wp2_with fail
          refine (IV.out W2 RN.out).mono ?_
          rintro e w3 hpost
          unfold BoolPost at hpost
          rw [HF2.out] at hpost
          obtain ⟨rfl, hb3⟩ := hpost
          have HB3 := Lib.hid (HB2.out.trans (hb3.mono HB2.out.size))
          clear hb3
          go_wp2_with fail
          go_ret
          exact ⟨rfl, HB3.out⟩
      · have hq : True := trivial
        have HF2 : Hid (fok ⟨3, 0, b, 0, d, []⟩ = false) := Lib.hid (by rw [HF.out]; exact decide_eq_false (by omega))
        go_wp2_with fail
        refine (IV.out W2 RN.out).mono ?_
        rintro e w3 hpost
        unfold BoolPost at hpost
        rw [HF2.out] at hpost
        obtain ⟨rfl, hb3⟩ := hpost
        have HB3 := Lib.hid (HB2.out.trans (hb3.mono HB2.out.size))
        clear hb3
        go_wp2_with fail
        go_ret
        exact ⟨rfl, HB3.out⟩
    · have hq : True := trivial
      have HF2 : Hid (fok ⟨3, 0, b, 0, d, []⟩ = false) := Lib.hid (by rw [HF.out]; exact decide_eq_false (by omega))
      go_wp2_with fail
      refine (IV.out W2 RN.out).mono ?_
      rintro e w3 hpost
      unfold BoolPost at hpost
      rw [HF2.out] at hpost
      obtain ⟨rfl, hb3⟩ := hpost
      have HB3 := Lib.hid (HB2.out.trans (hb3.mono HB2.out.size))
      clear hb3
      go_wp2_with fail
      go_ret
      exact ⟨rfl, HB3.out⟩
  · have hb0' : ¬ b ≥ 0 := hb0
    have HF2 : Hid (fok ⟨3, 0, b, 0, d, []⟩ = false) := Lib.hid (by rw [HF.out]; exact decide_eq_false (by omega))
    go_wp2_with fail
    refine (IV.out W2 RN.out).mono ?_
    rintro e w3 hpost
    unfold BoolPost at hpost
    rw [HF2.out] at hpost
    obtain ⟨rfl, hb3⟩ := hpost
    have HB3 := Lib.hid (HB2.out.trans (hb3.mono HB2.out.size))
    clear hb3
    go_wp2_with fail
    go_ret
    exact ⟨rfl, HB3.out⟩

end Go.Proofs.Ytifohfclgonhfaa
