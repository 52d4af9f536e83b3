/- The model's functions of chapter 1 that frames use: l6In, l1Len, l1Bytes, l1Decode, l1Join. -/
import Derived.Test.YtifohfclgonhfaaVMath
import Derived.Test.YtifohfclgonhfaaInts
import Derived.Deep.RegionHeld3
import Derived.IntWalk
namespace Go.Proofs.Ytifohfclgonhfaa
open Go.RowKit
set_option linter.unusedVariables false
set_option linter.unusedSimpArgs false

set_option maxRecDepth 100000 in
set_option maxHeartbeats 400000 in
theorem l1Len_any (n : Int) (w : World) (h0 : 0 ≤ n) (h1 : n ≤ 1073741823) : Calls Try.prog 83 #[.int .i64 n] w fun e w' => e = .returned (.int .i64 (vlen n)) ∧ w = w' := by
  go_enter Try.func83, Try.ntmps83
  go_wp2
  all_goals
    go_ret
    exact ⟨ret_int (by unfold vlen; omega), rfl⟩

set_option maxRecDepth 100000 in
set_option maxHeartbeats 400000 in
theorem l6In_any (n a b : Int) (w : World) : Calls Try.prog 54 #[.int .i64 n, .int .i64 a, .int .i64 b] w fun e w' => e = .returned (.bool (decide (a ≤ n ∧ n ≤ b))) ∧ w = w' := by
  by_cases h1 : n < a
  · go_enter Try.func54, Try.ntmps54
    go_wp2
    all_goals
      go_ret
      exact ⟨ret_bool (by first | (simp; done) | (simp; omega)), rfl⟩
  · by_cases h2 : b < n
    all_goals
      go_enter Try.func54, Try.ntmps54
      go_wp2
      all_goals
        go_ret
        exact ⟨ret_bool (by first | (simp; done) | (simp; omega)), rfl⟩

theorem conv_list (w : World) (xs : List Int) (g n c : Nat) (hg : g = w.heap.size) (hn : xs.length = n) :
    (convert 22 9 (.slice (some ⟨g, 0, none⟩) n c)).run Try.prog (w.alloc (.cells (xs.map (Value.int .u8)).toArray 5)) = .ok (.string (strOfNums xs)) (w.alloc (.cells (xs.map (Value.int .u8)).toArray 5)) := by
  subst hg
  refine run_convert_bytes_arg (P := Try.prog) _ 22 5 Try.underlying22 Try.underlying5 w.heap.size 0 n c xs hn ?_ 9 Try.underlying9
  intro i hi
  rw [Nat.zero_add, World.cell?_alloc_mark]
  simp [List.getElem?_map, List.getD_eq_getElem?_getD, List.getElem?_eq_getElem (hn ▸ hi : i < xs.length)]
theorem conv1 (w : World) (g : Nat) (a : Int) (hg : g = w.heap.size) : (convert 22 9 (.slice (some ⟨g, 0, none⟩) 1 1)).run Try.prog (w.alloc (.cells #[.int .u8 a] 5)) = .ok (.string (strOfNums [a])) (w.alloc (.cells #[.int .u8 a] 5)) := conv_list w [a] g 1 1 hg rfl
theorem conv2 (w : World) (g : Nat) (a b : Int) (hg : g = w.heap.size) : (convert 22 9 (.slice (some ⟨g, 0, none⟩) 2 2)).run Try.prog (w.alloc (.cells #[.int .u8 a, .int .u8 b] 5)) = .ok (.string (strOfNums [a, b])) (w.alloc (.cells #[.int .u8 a, .int .u8 b] 5)) := conv_list w [a, b] g 2 2 hg rfl
theorem conv4 (w : World) (g : Nat) (a b c d : Int) (hg : g = w.heap.size) : (convert 22 9 (.slice (some ⟨g, 0, none⟩) 4 4)).run Try.prog (w.alloc (.cells #[.int .u8 a, .int .u8 b, .int .u8 c, .int .u8 d] 5)) = .ok (.string (strOfNums [a, b, c, d])) (w.alloc (.cells #[.int .u8 a, .int .u8 b, .int .u8 c, .int .u8 d] 5)) := conv_list w [a, b, c, d] g 4 4 hg rfl

set_option maxRecDepth 100000 in
set_option maxHeartbeats 400000 in
theorem l1b_1 (n : Int) (w : World) (h0 : 0 ≤ n) (h1 : n < 64) : Calls Try.prog 82 #[.int .i64 n, .int .i64 1] w fun e w' => e = .returned (.string (strOfNums [n])) ∧ Below w.heap.size w w' := by
  have cv := conv1
  go_enter Try.func82, Try.ntmps82
  go_wp2
  go_rounds 1
  go_rounds 1
  go_ret
  exact ⟨ret_str (app_nil _), (Below.refl _ _).alloc (Nat.le_refl _) _⟩
set_option maxRecDepth 100000 in
set_option maxHeartbeats 400000 in
theorem l1b_2 (n : Int) (w : World) (h0 : 64 ≤ n) (h1 : n < 16384) : Calls Try.prog 82 #[.int .i64 n, .int .i64 2] w fun e w' => e = .returned (.string (strOfNums [64 + n / 256, n % 256])) ∧ Below w.heap.size w w' := by
  have cv := conv1
  go_enter Try.func82, Try.ntmps82
  go_wp2
  go_rounds 2
  go_rounds 2
  go_ret
  exact ⟨ret_str (by rw [app_nil, app_nums]; rfl), ((Below.refl _ _).alloc (Nat.le_refl _) _).alloc (by simp) _⟩
set_option maxRecDepth 100000 in
set_option maxHeartbeats 1000000 in
theorem l1b_4 (n : Int) (w : World) (h0 : 16384 ≤ n) (h1 : n ≤ 1073741823) : Calls Try.prog 82 #[.int .i64 n, .int .i64 4] w fun e w' => e = .returned (.string (strOfNums [128 + n / 16777216, n / 65536 % 256, n / 256 % 256, n % 256])) ∧ Below w.heap.size w w' := by
  have cv := conv1
  have e1 : 128 + n / 256 / 256 / 256 = 128 + n / 16777216 := by omega
  have e2 : n / 256 / 256 % 256 = n / 65536 % 256 := by omega
  have E1 := Lib.hid e1
  have E2 := Lib.hid e2
  clear e1 e2
  go_enter Try.func82, Try.ntmps82
  go_wp2
  go_rounds 3
  go_rounds 4
  go_ret
  exact ⟨ret_str (by rw [app_nil, app_nums, app_nums, app_nums, E1.out, E2.out]; rfl), ((((Below.refl _ _).alloc (Nat.le_refl _) _).alloc (by simp) _).alloc (by simp; omega) _).alloc (by simp; omega) _⟩

/-- 'l1Bytes(n, l1Len(n))' where n can be encoded. -/
theorem l1b_any (n : Int) (w : World) (h0 : 0 ≤ n) (h1 : n ≤ 1073741823) : Calls Try.prog 82 #[.int .i64 n, .int .i64 (vlen n)] w fun e w' => e = .returned (.string (encS n)) ∧ Below w.heap.size w w' := by
  by_cases g1 : n < 64
  · have hv : vlen n = 1 := by unfold vlen; omega
    rw [hv]; unfold encS; rw [encN_1 hv]; exact l1b_1 n w h0 g1
  by_cases g2 : n < 16384
  · have hv : vlen n = 2 := by unfold vlen; omega
    rw [hv]; unfold encS; rw [encN_2 hv]; exact l1b_2 n w (by omega) g2
  · have hv : vlen n = 4 := by unfold vlen; omega
    rw [hv]; unfold encS; rw [encN_4 hv]; exact l1b_4 n w (by omega) h1

theorem ret_pair {a b c d : Int} (h : a = c) (k : b = d) : Ending.returned (.tuple #[.int .i64 a, .int .i64 b]) = .returned (.tuple #[.int .i64 c, .int .i64 d]) := by rw [h, k]

theorem two' (a b : Int) (a0 : 0 ≤ a) (a1 : a < 256) (b0 : 0 ≤ b) (b1 : b < 256) : wrap64 (256 * (a % 64) + wrap64 b) = a % 64 * 256 + b := by
  rw [w64 b b0 (by omega), w64 _ (by omega) (by omega)]; omega
theorem four' (a b c d : Int) (a0 : 0 ≤ a) (a1 : a < 256) (b0 : 0 ≤ b) (b1 : b < 256) (c0 : 0 ≤ c) (c1 : c < 256) (d0 : 0 ≤ d) (d1 : d < 256) :
    wrap64 (wrap64 (256 * wrap64 (wrap64 (256 * wrap64 (256 * (a % 64) + wrap64 b)) + wrap64 c)) + wrap64 d) = ((a % 64 * 256 + b) * 256 + c) * 256 + d := by
  rw [two' a b a0 a1 b0 b1, w64 c c0 (by omega), w64 d d0 (by omega), w64 (256 * (a % 64 * 256 + b)) (by omega) (by omega), w64 (256 * (a % 64 * 256 + b) + c) (by omega) (by omega),
    w64 (256 * (256 * (a % 64 * 256 + b) + c)) (by omega) (by omega), w64 (256 * (256 * (a % 64 * 256 + b) + c) + d) (by omega) (by omega)]
  omega
set_option maxRecDepth 100000 in
set_option maxHeartbeats 1000000 in
theorem l1d_1 (s : ByteArray) (w : World) (hs : s.size ≤ maxLen) (h0 : 0 < s.size) (hb : s[0].toNat < 64) : Calls Try.prog 86 #[.string s] w fun e w' => e = .returned (.tuple #[.int .i64 (dval s), .int .i64 (dsz s)]) ∧ Below w.heap.size w w' := by
  unfold maxLen at hs
  have he := isEmpty_of_pos (s := s) (by omega)
  have e0 := bt_eq s 0 (by omega)
  have hd : dsz s = 1 := by unfold dsz; rw [if_neg (by omega)]; omega
  have hv : dval s = bt s 0 % 64 := by rw [dval_1 hd]; omega
  have E0 := Lib.hid e0
  have HD := Lib.hid hd
  have HV := Lib.hid hv
  clear hd hv e0
  have hq : s[0].toNat / 64 = 0 := by omega
  have hqi : (s[0].toNat : Int) / 64 = 0 := by omega
  go_enter Try.func86, Try.ntmps86
  go_wp2
  go_rounds 1
  go_ret2
  exact ⟨ret_pair (by rw [HV.out, E0.out]) (HD.out).symm, by first | exact Below.refl _ _ | exact (Below.refl _ _).alloc (Nat.le_refl _) _⟩
set_option maxRecDepth 100000 in
set_option maxHeartbeats 1000000 in
theorem l1d_2 (s : ByteArray) (w : World) (hs : s.size ≤ maxLen) (h0 : 2 ≤ s.size) (hb : 64 ≤ s[0].toNat) (hb2 : s[0].toNat < 128) : Calls Try.prog 86 #[.string s] w fun e w' => e = .returned (.tuple #[.int .i64 (dval s), .int .i64 (dsz s)]) ∧ Below w.heap.size w w' := by
  unfold maxLen at hs
  have he := isEmpty_of_pos (s := s) (by omega)
  have e0 := bt_eq s 0 (by omega)
  have e1 := bt_eq s 1 (by omega)
  have hd : dsz s = 2 := by unfold dsz; rw [if_neg (by omega)]; omega
  have hv : dval s = bt s 0 % 64 * 256 + bt s 1 := by rw [dval_2 hd]; omega
  have E0 := Lib.hid e0
  have E1 := Lib.hid e1
  have HD := Lib.hid hd
  have HV := Lib.hid hv
  clear hd hv e0 e1
  have hq : s[0].toNat / 64 = 1 := by omega
  have hqi : (s[0].toNat : Int) / 64 = 1 := by omega
  go_enter Try.func86, Try.ntmps86
  go_wp2
  go_rounds 2
  go_ret2
  exact ⟨ret_pair (by rw [HV.out]; simp only [E0.out, E1.out]; exact two' _ _ (bt_lo s 0) (bt_hi s 0) (bt_lo s 1) (bt_hi s 1)) (HD.out).symm, by first | exact Below.refl _ _ | exact (Below.refl _ _).alloc (Nat.le_refl _) _⟩
set_option maxRecDepth 100000 in
set_option maxHeartbeats 1000000 in
theorem l1d_4 (s : ByteArray) (w : World) (hs : s.size ≤ maxLen) (h0 : 4 ≤ s.size) (hb : 128 ≤ s[0].toNat) (hb2 : s[0].toNat < 192) : Calls Try.prog 86 #[.string s] w fun e w' => e = .returned (.tuple #[.int .i64 (dval s), .int .i64 (dsz s)]) ∧ Below w.heap.size w w' := by
  unfold maxLen at hs
  have he := isEmpty_of_pos (s := s) (by omega)
  have e0 := bt_eq s 0 (by omega)
  have e1 := bt_eq s 1 (by omega)
  have e2 := bt_eq s 2 (by omega)
  have e3 := bt_eq s 3 (by omega)
  have hd : dsz s = 4 := by unfold dsz; rw [if_neg (by omega)]; omega
  have hv : dval s = ((bt s 0 % 64 * 256 + bt s 1) * 256 + bt s 2) * 256 + bt s 3 := by rw [dval_4 hd]; omega
  have E0 := Lib.hid e0
  have E1 := Lib.hid e1
  have E2 := Lib.hid e2
  have E3 := Lib.hid e3
  have HD := Lib.hid hd
  have HV := Lib.hid hv
  clear hd hv e0 e1 e2 e3
  have hq : s[0].toNat / 64 = 2 := by omega
  have hqi : (s[0].toNat : Int) / 64 = 2 := by omega
  go_enter Try.func86, Try.ntmps86
  go_wp2
  go_rounds 4
  go_ret2
  exact ⟨ret_pair (by rw [HV.out]; simp only [E0.out, E1.out, E2.out, E3.out]; exact four' _ _ _ _ (bt_lo s 0) (bt_hi s 0) (bt_lo s 1) (bt_hi s 1) (bt_lo s 2) (bt_hi s 2) (bt_lo s 3) (bt_hi s 3)) (HD.out).symm, by first | exact Below.refl _ _ | exact (Below.refl _ _).alloc (Nat.le_refl _) _⟩
set_option maxRecDepth 100000 in
set_option maxHeartbeats 1000000 in
theorem l1d_short (s : ByteArray) (w : World) (hs : s.size ≤ maxLen) (h0 : 0 < s.size) (hb : (64 ≤ s[0].toNat ∧ s[0].toNat < 128 ∧ s.size < 2) ∨ (128 ≤ s[0].toNat ∧ s[0].toNat < 192 ∧ s.size < 4) ∨ 192 ≤ s[0].toNat) : Calls Try.prog 86 #[.string s] w fun e w' => e = .returned (.tuple #[.int .i64 (dval s), .int .i64 (dsz s)]) ∧ Below w.heap.size w w' := by
  unfold maxLen at hs
  have he := isEmpty_of_pos (s := s) (by omega)
  have e0 := bt_eq s 0 (by omega)
  have hd : dsz s = 0 := by unfold dsz; rw [if_neg (by omega)]; omega
  have HD := Lib.hid hd
  have hx : (s[0].toNat : Int) < 256 := by rw [e0]; exact bt_hi s 0
  clear hd e0
  rcases hb with ⟨hb, hb2, hb3⟩ | ⟨hb, hb2, hb3⟩ | hb
  · have hq : s[0].toNat / 64 = 1 := by omega
    have hqi : (s[0].toNat : Int) / 64 = 1 := by omega
    clear hx
    go_enter Try.func86, Try.ntmps86
    go_wp2
    go_ret2
    exact ⟨ret_pair (dval_0 HD.out).symm (HD.out).symm, by first | exact Below.refl _ _ | exact (Below.refl _ _).alloc (Nat.le_refl _) _⟩
  · have hq : s[0].toNat / 64 = 2 := by omega
    have hqi : (s[0].toNat : Int) / 64 = 2 := by omega
    clear hx
    go_enter Try.func86, Try.ntmps86
    go_wp2
    go_ret2
    exact ⟨ret_pair (dval_0 HD.out).symm (HD.out).symm, by first | exact Below.refl _ _ | exact (Below.refl _ _).alloc (Nat.le_refl _) _⟩
  · have hq : s[0].toNat / 64 = 3 := by omega
    have hqi : (s[0].toNat : Int) / 64 = 3 := by omega
    clear hx
    go_enter Try.func86, Try.ntmps86
    go_wp2
    go_ret2
    exact ⟨ret_pair (dval_0 HD.out).symm (HD.out).symm, by first | exact Below.refl _ _ | exact (Below.refl _ _).alloc (Nat.le_refl _) _⟩
set_option maxRecDepth 100000 in
set_option maxHeartbeats 400000 in
theorem l1d_none (s : ByteArray) (w : World) (h0 : s.size = 0) : Calls Try.prog 86 #[.string s] w fun e w' => e = .returned (.tuple #[.int .i64 (dval s), .int .i64 (dsz s)]) ∧ Below w.heap.size w w' := by
  have he := isEmpty_of_zero h0
  have hd : dsz s = 0 := by unfold dsz; rw [if_pos h0]
  have HD := Lib.hid hd
  clear hd h0
  go_enter Try.func86, Try.ntmps86
  go_wp2
  go_ret2
  exact ⟨ret_pair (dval_0 HD.out).symm (HD.out).symm, by first | exact Below.refl _ _ | exact (Below.refl _ _).alloc (Nat.le_refl _) _⟩
theorem l1d_any (s : ByteArray) (w : World) (hs : s.size ≤ maxLen) : Calls Try.prog 86 #[.string s] w fun e w' => e = .returned (.tuple #[.int .i64 (dval s), .int .i64 (dsz s)]) ∧ Below w.heap.size w w' := by
  by_cases h0 : s.size = 0
  · exact l1d_none s w h0
  by_cases h1 : s[0].toNat < 64
  · exact l1d_1 s w hs (by omega) h1
  by_cases h2 : s[0].toNat < 128
  · by_cases h3 : 2 ≤ s.size
    · exact l1d_2 s w hs h3 (by omega) h2
    · exact l1d_short s w hs (by omega) (.inl ⟨by omega, h2, by omega⟩)
  by_cases h4 : s[0].toNat < 192
  · by_cases h3 : 4 ≤ s.size
    · exact l1d_4 s w hs h3 (by omega) h4
    · exact l1d_short s w hs (by omega) (.inr (.inl ⟨by omega, h4, by omega⟩))
  · exact l1d_short s w hs (by omega) (.inr (.inr (by omega)))

theorem keepJ {w0 w1 w2 : World} {a : Addr} {v : Value} (h : w1.cell? a = some v ∧ Below w0.heap.size w0 w1) (hb : Below w1.heap.size w1 w2) : w2.cell? a = some v ∧ Below w0.heap.size w0 w2 :=
  ⟨(hb.cell (World.block_lt_of_cell? w1 _ h.1)).trans h.1, h.2.trans (hb.mono h.2.size)⟩

set_option maxRecDepth 100000 in
set_option maxHeartbeats 1000000 in
theorem l1Join_any (v : Value) (xs : List Int) (w : World) (h : Ints w v xs) (hx : xs.length ≤ 1000000) (hok : okAll xs = true) :
    Calls Try.prog 65 #[v] w fun e w' => e = .returned (.string (joinS xs)) ∧ Below w.heap.size w w' := by
  obtain ⟨a, c, rfl, h⟩ := h
  have HOK := Lib.hid hok
  clear hok
  by_cases h0 : xs = []
  · subst h0
    clear h
    go_enter Try.func65, Try.ntmps65
    go_wp2_with fail
    go_rounds 1
    go_ret
    exact ⟨rfl, Below.refl _ _⟩
  obtain ⟨g, o, rfl, hc⟩ := h h0
  have HC := Lib.hid hc
  clear hc h h0
  go_enter Try.func65, Try.ntmps65
  go_wp2_with fail
  go_loopw [3, 4] (fun ov iv wr => ∃ k : Nat, k ≤ xs.length ∧ iv = .int .i64 k ∧ ov = .string (joinS (xs.take k)) ∧ Below w.heap.size w wr) (fun _ iv _ => xs.length - (intOf iv).toNat)
  case atStart => exact ⟨0, Nat.zero_le _, rfl, rfl, Below.refl _ _⟩
  case round =>
    obtain ⟨k, hk, rfl, rfl, hbel⟩ := hrel
    have HB := Lib.hid hbel
    clear hbel
    by_cases hlt : k < xs.length
    · have e1 := HC.out k hlt
      have e1 := (HB.out.cell (World.block_lt_of_cell? w _ e1)).trans e1
      have b1 : (k : Int) < (xs.length : Int) := by omega
      have hz := all_at xs k hlt HOK.out
      have HS := Lib.hid (joinS_step xs k hlt)
      have hsz := joinS_size (xs.take k)
      have hsz2 : (xs.take k).length ≤ k := List.length_take_le _ _
      generalize xs.getD k 0 = z at e1 hz HS
      obtain ⟨z0, z1⟩ := hz
      have h4 : (encS z).size ≤ 4 := by have := encS_size z; have := vlen_cases z; omega
      have S0 := Lib.hid (show wr.cell? ⟨g, o + k, none⟩ = some (.int .i64 z) ∧ Below w.heap.size w wr from ⟨e1, HB.out⟩)
      generalize joinS (xs.take k) = acc at hsz HS
      have hcat : ¬ 9223372036854775807 < acc.size + (encS z).size := by omega
      go_wp2_with fail
      go_region_held3 (fun w' => w'.cell? ⟨g, o + k, none⟩ = some (.int .i64 z) ∧ Below w.heap.size w w') (first | assumption | exact ⟨S0.out.1, S0.out.2.drew⟩ | exact keepJ (by assumption) (by assumption)) (first | (go_at_call 83; refine (l1Len_any _ _ z0 z1).mono ?_; rintro e w' ⟨rfl, rfl⟩) | (go_at_call 82; refine (l1b_any _ _ z0 z1).mono ?_; rintro e w' ⟨rfl, hbx⟩))
      have hS := ‹_ ∧ Below w.heap.size w w'›
      have HS2 := Lib.hid hS.2
      clear hS
      go_wp2_with fail
      go_roundw
      case rel => exact ⟨k + 1, by omega, by go_num, by rw [HS.out], HS2.out⟩
      case measure => simp [intOf]; omega
    · have he : k = xs.length := by omega
      have HE := Lib.hid he
      clear he
      go_wp2
      go_ret
      exact ⟨ret_str (by rw [HE.out, List.take_of_length_le (Nat.le_refl _)]), HB.out⟩


end Go.Proofs.Ytifohfclgonhfaa
