/- The laws VarintPrefix and VarintOrder: the walks. -/
import Derived.Test.YtfppnaaofkicaaaLaw1
import Derived.Test.YtfppnaaofkicaaaLess
import Derived.Lib.Strings
namespace Go.Proofs.Ytfppnaaofkicaaa
open Go.RowKit
set_option linter.unusedVariables false
set_option linter.unusedSimpArgs false

theorem size_cut (s : ByteArray) (k : Nat) (h : k ≤ s.size) : (s.extract 0 k).size = k := by simp; omega
theorem bt_cut (s : ByteArray) (k i : Nat) (h : k ≤ s.size) (hi : i < k) : bt (s.extract 0 k) i = bt s i := by
  unfold bt
  have e : (s.extract 0 k).data.toList = s.data.toList.take k := by rw [Lib.extract_data]; simp
  rw [e, List.getD_eq_getElem?_getD, List.getD_eq_getElem?_getD, List.getElem?_take, if_pos hi]
theorem cut_none (n : Int) (k : Nat) (hk : k < (encS n).size) : dsz ((encS n).extract 0 k) = 0 := by
  have hz := encS_size n
  have hc := size_cut (encS n) k (by omega)
  by_cases h0 : k = 0
  · unfold dsz; rw [if_pos (by omega)]
  have hb := bt_cut (encS n) k 0 (by omega) (by omega)
  rcases vlen_cases n with h | h | h | h
  · omega
  · omega
  · obtain ⟨a, b⟩ := vlen_2 h
    have b0 : bt (encS n ++ ByteArray.empty) 0 = 64 + n / 256 := by unfold encS; rw [encN_2 h]; exact bt_nums _ _ _ _ rfl (by omega) (by omega)
    rw [app_empty] at b0
    unfold dsz; rw [if_neg (by omega)]; omega
  · obtain ⟨a, b⟩ := vlen_4 h
    have b0 : bt (encS n ++ ByteArray.empty) 0 = 128 + n / 16777216 := by unfold encS; rw [encN_4 h]; exact bt_nums _ _ _ _ rfl (by omega) (by omega)
    rw [app_empty] at b0
    unfold dsz; rw [if_neg (by omega)]; omega

set_option maxHeartbeats 400000 in
theorem prefix_walk (a : Option Addr) (len cap : Nat) (zs : List Int) (w : World) (h : IsRow .u8 w a len cap zs) :
    Calls Try.prog 7 #[.slice a len cap] w fun e w' => e = .returned (.bool true) ∧ Below w.heap.size w w' := by
  have H := Lib.hid h
  clear h
  by_cases hl : 1048576 < len
  · go_enter Try.func7, Try.ntmps7
    go_wp2
    go_ret
    exact ⟨rfl, Below.refl _ _⟩
  go_enter Try.func7, Try.ntmps7
  go_wp2_with fail
  refine (drawEnc_any a len cap zs w H.out).mono ?_
  rintro e w1 ⟨n, ⟨hn0, hn1⟩, rfl, hb⟩
  have HB := Lib.hid hb
  clear hb
  go_wp2_with fail
  refine (ivenc_any _ _).mono ?_
  rintro e w2 ⟨rfl, hb2⟩
  have HB2 := Lib.hid (HB.out.trans (hb2.mono HB.out.size))
  clear hb2
  go_wp2_with fail
  refine (senc_any _ _).mono ?_
  rintro e w3 ⟨rfl, hb3⟩
  have HB3 := Lib.hid (HB2.out.trans (hb3.mono HB2.out.size))
  clear hb3
  have hz4 : (encS n).size ≤ 4 := by have := vlen_cases n; have := encS_size n; omega
  go_wp2_with fail
  go_loop [6] (fun i => ∃ k : Nat, k ≤ (encS n).size ∧ i = .int .i64 k) (fun i => (encS n).size - (intOf i).toNat)
  case atStart => exact ⟨0, Nat.zero_le _, rfl⟩
  case round =>
    obtain ⟨k, hk, rfl⟩ := hrel
    by_cases hlt : k < (encS n).size
    · have hd := cut_none n k hlt
      have hok : dok ((encS n).extract 0 k) = false := decide_eq_false (by omega)
      have hs : ((encS n).extract 0 k).size ≤ maxLen := by rw [size_cut _ _ hk]; unfold maxLen; omega
      have HS := Lib.hid hs
      clear hd hs
      go_wp2_with (go_at_call 14; refine (idec_any _ _ HS.out).mono ?_; rintro e w4 ⟨rfl, rfl⟩)
      go_round
      case rel => exact ⟨k + 1, by omega, by go_num⟩
      case measure => simp [intOf]; omega
    · go_wp2
      go_ret
      exact ⟨rfl, HB3.out⟩

set_option maxHeartbeats 400000 in
theorem order_walk (a : Option Addr) (len cap : Nat) (zs : List Int) (a1 : Option Addr) (len1 cap1 : Nat) (zs1 : List Int) (w : World) (h : IsRow .u8 w a len cap zs) (h1 : IsRow .u8 w a1 len1 cap1 zs1) :
    Calls Try.prog 8 #[.slice a len cap, .slice a1 len1 cap1] w fun e w' => e = .returned (.bool true) ∧ Below w.heap.size w w' := by
  have H := Lib.hid h
  have H1 := Lib.hid h1
  clear h h1
  by_cases hl : 1048576 < len
  · go_enter Try.func8, Try.ntmps8
    go_wp2
    go_ret
    exact ⟨rfl, Below.refl _ _⟩
  by_cases hl1 : 1048576 < len1
  · go_enter Try.func8, Try.ntmps8
    go_wp2
    go_ret
    exact ⟨rfl, Below.refl _ _⟩
  go_enter Try.func8, Try.ntmps8
  go_wp2_with fail
  refine (drawEnc_any a len cap zs w H.out).mono ?_
  rintro e w1 ⟨n, ⟨hn0, hn1⟩, rfl, hb⟩
  have HB := Lib.hid hb
  clear hb
  go_wp2_with fail
  refine (ivenc_any _ _).mono ?_
  rintro e w2 ⟨rfl, hb2⟩
  have HB2 := Lib.hid (HB.out.trans (hb2.mono HB.out.size))
  clear hb2
  go_wp2_with fail
  refine (senc_any _ _).mono ?_
  rintro e w3 ⟨rfl, hb3⟩
  have HB3 := Lib.hid (HB2.out.trans (hb3.mono HB2.out.size))
  clear hb3
  by_cases hneg : n < 0
  · have he := isEmpty_enc0 (n := n) (by unfold vlen; omega)
    go_wp2
    go_ret
    exact ⟨rfl, HB3.out⟩
  · have hv : vlen n ≠ 0 := by unfold vlen; omega
    have he := isEmpty_enc (n := n) hv
    have HV := Lib.hid hv
    clear hv
    go_wp2_with fail
    refine (drawEnc_any a1 len1 cap1 zs1 w3 (H1.out.below HB3.out)).mono ?_
    rintro e w4 ⟨m, ⟨hm0, hm1⟩, rfl, hb4⟩
    have HB4 := Lib.hid (HB3.out.trans (hb4.mono HB3.out.size))
    clear hb4
    go_wp2_with fail
    refine (ivenc_any _ _).mono ?_
    rintro e w5 ⟨rfl, hb5⟩
    have HB5 := Lib.hid (HB4.out.trans (hb5.mono HB4.out.size))
    clear hb5
    by_cases hmneg : m < 0
    · have he2 := isEmpty_enc0 (n := m) (by unfold vlen; omega)
      go_wp2
      go_ret
      exact ⟨rfl, HB5.out⟩
    · have hv2 : vlen m ≠ 0 := by unfold vlen; omega
      have he2 := isEmpty_enc (n := m) hv2
      have hless := less_enc m n hv2 HV.out
      clear hv2
      go_wp2
      go_ret
      exact ⟨ret_bool (by simp), HB5.out⟩

end Go.Proofs.Ytfppnaaofkicaaa
