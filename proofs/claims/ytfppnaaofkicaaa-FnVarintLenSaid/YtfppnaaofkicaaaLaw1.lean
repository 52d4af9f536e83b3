/- The laws VarintLen and VarintRoundTrip: the walks. -/
import Derived.Test.YtfppnaaofkicaaaNumDraw
import Derived.Test.YtfppnaaofkicaaaMin
namespace Go.Proofs.Ytfppnaaofkicaaa
open Go.RowKit
set_option linter.unusedVariables false
set_option linter.unusedSimpArgs false

def GotInt (P : Int → Prop) (w : World) (e : Ending) (w' : World) : Prop := ∃ n : Int, P n ∧ e = .returned (.int .i64 n) ∧ Below w.heap.size w w'
theorem IsRow.below {k : IntKind} {w w' : World} {a : Option Addr} {len cap : Nat} {zs : List Int} (h : IsRow k w a len cap zs) (hb : Below w.heap.size w w') : IsRow k w' a len cap zs :=
  h.keep fun x _ _ i v hv => (hb.cell (World.block_lt_of_cell? w _ hv)).trans hv
theorem below_grown {w w1 w2 : World} (h : Below w.heap.size w w1) (hg : w1.grownBy w2 (some w.heap.size)) : Below w.heap.size w w2 :=
  h.grown hg h.size (fun k e => by injection e with e; omega)

set_option maxHeartbeats 400000 in
theorem drawEnc_any (a : Option Addr) (len cap : Nat) (zs : List Int) (w : World) (h : IsRow .u8 w a len cap zs) :
    Calls Try.prog 11 #[.slice a len cap] w (GotInt (fun n => -1 ≤ n ∧ n ≤ 1000000) w) := by
  have H := Lib.hid h
  clear h
  go_enter Try.func11, Try.ntmps11
  go_wp2_with fail
  refine (open_any a len cap zs w H.out).mono ?_
  rintro e w1 ⟨rfl, hb, hR⟩
  go_wp2_with fail
  refine (num_any _ 0 _ hR (by omega)).mono ?_
  rintro e w2 ⟨n, hn, rfl, hg, _⟩
  have hbb := below_grown hb hg
  go_wp2_with fail
  go_ret
  exact ⟨n, hn, rfl, hbb⟩
set_option maxHeartbeats 400000 in
theorem drawLen_any (a : Option Addr) (len cap : Nat) (zs : List Int) (w : World) (h : IsRow .u8 w a len cap zs) :
    Calls Try.prog 16 #[.slice a len cap] w (GotInt (fun n => -1 ≤ n ∧ n ≤ 1000000) w) := by
  have H := Lib.hid h
  clear h
  go_enter Try.func16, Try.ntmps16
  go_wp2_with fail
  refine (open_any a len cap zs w H.out).mono ?_
  rintro e w1 ⟨rfl, hb, hR⟩
  go_wp2_with fail
  refine (num_any _ 0 _ hR (by omega)).mono ?_
  rintro e w2 ⟨n, hn, rfl, hg, _⟩
  have hbb := below_grown hb hg
  go_wp2_with fail
  go_ret
  exact ⟨n, hn, rfl, hbb⟩

set_option maxHeartbeats 400000 in
theorem len_walk (a : Option Addr) (len cap : Nat) (zs : List Int) (w : World) (h : IsRow .u8 w a len cap zs) :
    Calls Try.prog 4 #[.slice a len cap] w fun e w' => e = .returned (.bool true) ∧ Below w.heap.size w w' := by
  have H := Lib.hid h
  clear h
  by_cases hl : 1048576 < len
  · go_enter Try.func4, Try.ntmps4
    go_wp2
    go_ret
    exact ⟨rfl, Below.refl _ _⟩
  · go_enter Try.func4, Try.ntmps4
    go_wp2_with fail
    refine (drawLen_any a len cap zs w H.out).mono ?_
    rintro e w1 ⟨n, ⟨hn0, hn1⟩, rfl, hb⟩
    have hq : (((encS n).size : Int) == vlen n) = true := by rw [beq_iff_eq]; exact encS_size n
    have hle : vlen n ≤ 4 := by unfold vlen; omega
    have h3 : (vlen n == 3) = false := by rw [beq_eq_false_iff_ne]; unfold vlen; omega
    have h3' : (vlen n != 3) = true := by rw [bne_iff_ne]; unfold vlen; omega
    by_cases hneg : n < 0
    · have hz : (vlen n == 0) = true := by rw [beq_iff_eq]; unfold vlen; omega
      have HB := Lib.hid hb
      clear hb
      go_wp2_with (first | (go_at_call 15; refine (ivlen_any _ _).mono ?_; rintro e w2 ⟨rfl, rfl⟩) | (go_at_call 17; refine (svlen_any _ _).mono ?_; rintro e w2 ⟨rfl, rfl⟩) | (go_at_call 12; refine (ivenc_any _ _).mono ?_; rintro e w3 ⟨rfl, hb3⟩))
      go_ret
      exact ⟨rfl, HB.out.trans (hb3.mono HB.out.size)⟩
    · have hz : (vlen n == 0) = false := by rw [beq_eq_false_iff_ne]; unfold vlen; omega
      have HB := Lib.hid hb
      clear hb
      go_wp2_with (first | (go_at_call 15; refine (ivlen_any _ _).mono ?_; rintro e w2 ⟨rfl, rfl⟩) | (go_at_call 17; refine (svlen_any _ _).mono ?_; rintro e w2 ⟨rfl, rfl⟩) | (go_at_call 12; refine (ivenc_any _ _).mono ?_; rintro e w3 ⟨rfl, hb3⟩))
      go_ret
      exact ⟨ret_bool (by first | (simp; done) | (simp; omega)), HB.out.trans (hb3.mono HB.out.size)⟩

/-- 'string(b)' of a slice of bytes that came in. -/
theorem conv_arg {w : World} {a : Option Addr} {len cap : Nat} {zs : List Int} (h : IsRow .u8 w a len cap zs) :
    (convert 22 9 (.slice a len cap)).run Try.prog w = .ok (.string (strOfNums (zs.take len))) w := by
  rcases h with ⟨rfl, rfl, rfl, rfl⟩ | ⟨x, rfl, hl, hm, hz, hcell, hwz⟩
  · exact run_convert_bytes_nil (P := Try.prog) w 22 5 Try.underlying22 Try.underlying5 0 0 9 Try.underlying9
  · by_cases h0 : len = 0
    · subst h0
      rw [run_convert_bytes_string w 22 9 5 _ 0 cap Try.underlying22 Try.underlying5 Try.underlying9]
      have hl := run_loadCells_list (P := Try.prog) w x [] (fun j v hj => by simp at hj)
      rw [run_bytesToString w x 0 cap [] hl]
      rfl
    · obtain ⟨ab, off, spot⟩ := x
      have hspot : spot = none := by
        have := World.cell?_spot (hcell 0 (by omega))
        simpa [Addr.add] using this
      subst hspot
      refine run_convert_bytes_arg (P := Try.prog) w 22 5 Try.underlying22 Try.underlying5 ab off len cap (zs.take len) (by simp; omega) ?_ 9 Try.underlying9
      intro i hi
      have e : (⟨ab, off, none⟩ : Addr).add i = ⟨ab, off + i, none⟩ := by unfold Addr.add; split <;> simp_all
      rw [← e, hcell i (by omega)]
      simp [List.getD_eq_getElem?_getD, List.getElem?_take, hi]
theorem conv_arg_any {w : World} {a : Option Addr} {len cap : Nat} {zs : List Int} (h : IsRow .u8 w a len cap zs) :
    ∃ t : ByteArray, t.size = len ∧ ∀ w', Below w.heap.size w w' → (convert 22 9 (.slice a len cap)).run Try.prog w' = .ok (.string t) w' := by
  refine ⟨strOfNums (zs.take len), ?_, fun w' hb => conv_arg (h.below hb)⟩
  rw [size_nums]
  rcases h with ⟨rfl, rfl, rfl, rfl⟩ | ⟨x, rfl, hl, hm, hz, hcell, hwz⟩
  · rfl
  · simp; omega

theorem isEmpty_enc {n : Int} (h : vlen n ≠ 0) : (encS n).toList.isEmpty = false := by
  have := encS_size n; have := vlen_cases n
  exact isEmpty_of_pos (by omega)
theorem isEmpty_enc0 {n : Int} (h : vlen n = 0) : (encS n).toList.isEmpty = true := by
  have := encS_size n
  exact isEmpty_of_zero (by omega)

set_option maxHeartbeats 400000 in
theorem round_walk (a : Option Addr) (len cap : Nat) (zs : List Int) (a1 : Option Addr) (len1 cap1 : Nat) (zs1 : List Int) (w : World) (h : IsRow .u8 w a len cap zs) (h1 : IsRow .u8 w a1 len1 cap1 zs1) :
    Calls Try.prog 3 #[.slice a len cap, .slice a1 len1 cap1] w fun e w' => e = .returned (.bool true) ∧ Below w.heap.size w w' := by
  have H := Lib.hid h
  obtain ⟨t, ht, hcv⟩ := conv_arg_any h1
  have HC := Lib.hid hcv
  clear h h1 hcv
  by_cases hl : 1048576 < len
  · clear ht
    go_enter Try.func3, Try.ntmps3
    go_wp2
    go_ret
    exact ⟨rfl, Below.refl _ _⟩
  by_cases hl1 : 1048576 < len1
  · clear ht
    go_enter Try.func3, Try.ntmps3
    go_wp2
    go_ret
    exact ⟨rfl, Below.refl _ _⟩
  have ht' : t.size ≤ 1048576 := by omega
  clear ht
  go_enter Try.func3, Try.ntmps3
  go_wp2_with fail
  refine (drawEnc_any a len cap zs w H.out).mono ?_
  rintro e w1 ⟨n, ⟨hn0, hn1⟩, rfl, hb⟩
  have HB := Lib.hid hb
  clear hb
  go_wp2_with fail
  refine (ivenc_any _ _).mono ?_
  rintro e w2 ⟨rfl, hb2⟩
  have HB2 := Lib.hid (HB.out.trans (hb2.mono HB.out.size))
  clear hb2
  go_wp2_with fail
  refine (senc_any _ _).mono ?_
  rintro e w3 ⟨rfl, hb3⟩
  have HB3 := Lib.hid (HB2.out.trans (hb3.mono HB2.out.size))
  clear hb3
  by_cases hneg : n < 0
  · have he := isEmpty_enc0 (n := n) (by unfold vlen; omega)
    go_wp2
    go_ret
    exact ⟨rfl, HB3.out⟩
  · have hv : vlen n ≠ 0 := by unfold vlen; omega
    have he := isEmpty_enc (n := n) hv
    have hz := encS_size n
    have hz4 : (encS n).size ≤ 4 := by have := vlen_cases n; omega
    obtain ⟨d1, d2⟩ := dec_enc n t hv
    have k1 : (dval (encS n ++ t) == n) = true := by rw [beq_iff_eq]; exact d2
    have k2 : (dsz (encS n ++ t) == ((encS n).size : Int)) = true := by rw [beq_iff_eq]; omega
    have k3 : (dsz (encS n ++ t) == vlen n) = true := by rw [beq_iff_eq]; exact d1
    have k4 : dok (encS n ++ t) = true := decide_eq_true (by have := vlen_cases n; omega)
    have hs : (encS n ++ t).size ≤ maxLen := by rw [size_app]; unfold maxLen; omega
    have HS := Lib.hid hs
    have cv := HC.out w3 HB3.out
    clear hv hz d1 d2 hs
    go_wp2_with (first | (go_at_call 14; refine (idec_any _ _ HS.out).mono ?_; rintro e w4 ⟨rfl, rfl⟩) | (go_at_call 15; refine (ivlen_any _ _).mono ?_; rintro e w5 ⟨rfl, rfl⟩))
    go_ret
    exact ⟨rfl, HB3.out⟩

end Go.Proofs.Ytfppnaaofkicaaa
