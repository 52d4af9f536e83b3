/- Chapter 1: the encoding as a list of bytes; contracts of VarintEncode and of the model's. -/
import Derived.Test.YtfppnaaofkicaaaNum
import Derived.Laws.BytesArg
import Derived.Handy
namespace Go.Proofs.Ytfppnaaofkicaaa
open Go.RowKit
set_option linter.unusedVariables false
set_option linter.unusedSimpArgs false

/-- The numbers of the shortest encoding's bytes. -/
def encN (n : Int) : List Int :=
  if vlen n = 1 then [n] else if vlen n = 2 then [64 + n / 256, n % 256] else if vlen n = 4 then [128 + n / 16777216, n / 65536 % 256, n / 256 % 256, n % 256] else []
theorem encN_0 {n : Int} (h : vlen n = 0) : encN n = [] := by unfold encN; rw [h]; rfl
theorem encN_1 {n : Int} (h : vlen n = 1) : encN n = [n] := by unfold encN; rw [h]; rfl
theorem encN_2 {n : Int} (h : vlen n = 2) : encN n = [64 + n / 256, n % 256] := by unfold encN; rw [h]; rfl
theorem encN_4 {n : Int} (h : vlen n = 4) : encN n = [128 + n / 16777216, n / 65536 % 256, n / 256 % 256, n % 256] := by unfold encN; rw [h]; rfl
def encS (n : Int) : ByteArray := strOfNums (encN n)
theorem ret_str {a b : ByteArray} (h : a = b) : Ending.returned (.string a) = .returned (.string b) := by rw [h]
theorem str_of {a b : List Int} (h : a = b) : strOfNums a = strOfNums b := by rw [h]

theorem or64 (k : Int) (h0 : 0 ≤ k) (h1 : k < 64) : bits BinOp.or IntKind.u8 64 k = 64 + k := by
  obtain ⟨m, rfl⟩ := Int.eq_ofNat_of_zero_le h0
  have hm : m < 64 := by omega
  have H : ∀ m : Fin 64, bits BinOp.or IntKind.u8 64 (m.val : Int) = 64 + (m.val : Int) := by decide
  exact H ⟨m, hm⟩

theorem conv_list (w : World) (xs : List Int) (g n c : Nat) (hg : g = w.heap.size) (hn : xs.length = n) :
    (convert 22 9 (.slice (some ⟨g, 0, none⟩) n c)).run Try.prog (w.alloc (.cells (xs.map (Value.int .u8)).toArray 5)) = .ok (.string (strOfNums xs)) (w.alloc (.cells (xs.map (Value.int .u8)).toArray 5)) := by
  subst hg
  refine run_convert_bytes_arg (P := Try.prog) _ 22 5 Try.underlying22 Try.underlying5 w.heap.size 0 n c xs hn ?_ 9 Try.underlying9
  intro i hi
  rw [Nat.zero_add, World.cell?_alloc_mark]
  simp [List.getElem?_map, List.getD_eq_getElem?_getD, List.getElem?_eq_getElem (hn ▸ hi : i < xs.length)]
theorem conv1 (w : World) (g : Nat) (a : Int) (hg : g = w.heap.size) : (convert 22 9 (.slice (some ⟨g, 0, none⟩) 1 1)).run Try.prog (w.alloc (.cells #[.int .u8 a] 5)) = .ok (.string (strOfNums [a])) (w.alloc (.cells #[.int .u8 a] 5)) := conv_list w [a] g 1 1 hg rfl
theorem conv2 (w : World) (g : Nat) (a b : Int) (hg : g = w.heap.size) : (convert 22 9 (.slice (some ⟨g, 0, none⟩) 2 2)).run Try.prog (w.alloc (.cells #[.int .u8 a, .int .u8 b] 5)) = .ok (.string (strOfNums [a, b])) (w.alloc (.cells #[.int .u8 a, .int .u8 b] 5)) := conv_list w [a, b] g 2 2 hg rfl
theorem conv4 (w : World) (g : Nat) (a b c d : Int) (hg : g = w.heap.size) : (convert 22 9 (.slice (some ⟨g, 0, none⟩) 4 4)).run Try.prog (w.alloc (.cells #[.int .u8 a, .int .u8 b, .int .u8 c, .int .u8 d] 5)) = .ok (.string (strOfNums [a, b, c, d])) (w.alloc (.cells #[.int .u8 a, .int .u8 b, .int .u8 c, .int .u8 d] 5)) := conv_list w [a, b, c, d] g 4 4 hg rfl

set_option maxHeartbeats 400000 in
theorem ienc_any (n : Int) (w : World) : Calls Try.prog 32 #[.int .i64 n] w fun e w' => e = .returned (.string (encS n)) ∧ Below w.heap.size w w' := by
  by_cases g0 : n < 0 ∨ 1073741823 < n
  · have hv : vlen n = 0 := by unfold vlen; omega
    have HV := Lib.hid hv
    clear hv
    go_enter Try.func32, Try.ntmps32
    go_wp2_with (go_at_call 37; refine (size_any _ _).mono ?_; rw [HV.out]; rintro e w' ⟨rfl, rfl⟩)
    go_ret
    exact ⟨ret_str (by unfold encS; rw [encN_0 HV.out]; rfl), Below.refl _ _⟩
  by_cases g1 : n < 64
  · have hv : vlen n = 1 := by unfold vlen; omega
    have HV := Lib.hid hv
    have h0 : 0 ≤ n := by omega
    clear hv g0
    have cv := conv1
    go_enter Try.func32, Try.ntmps32
    go_wp2_with (go_at_call 37; refine (size_any _ _).mono ?_; rw [HV.out]; rintro e w' ⟨rfl, rfl⟩)
    go_ret
    exact ⟨ret_str (str_of (encN_1 HV.out).symm), (Below.refl _ _).alloc (Nat.le_refl _) _⟩
  by_cases g2 : n < 16384
  · have hv : vlen n = 2 := by unfold vlen; omega
    have HV := Lib.hid hv
    have h0 : 64 ≤ n := by omega
    have HB := Lib.hid (or64 (n / 256) (by omega) (by omega))
    clear hv g0 g1
    have cv := conv2
    go_enter Try.func32, Try.ntmps32
    go_wp2_with (go_at_call 37; refine (size_any _ _).mono ?_; rw [HV.out]; rintro e w' ⟨rfl, rfl⟩)
    go_ret
    exact ⟨ret_str (str_of (by rw [encN_2 HV.out, HB.out])), (Below.refl _ _).alloc (Nat.le_refl _) _⟩
  · have hv : vlen n = 4 := by unfold vlen; omega
    have HV := Lib.hid hv
    have h0 : 16384 ≤ n := by omega
    have h1 : n ≤ 1073741823 := by omega
    clear hv g0 g1 g2
    have cv := conv4
    go_enter Try.func32, Try.ntmps32
    go_wp2_with (go_at_call 37; refine (size_any _ _).mono ?_; rw [HV.out]; rintro e w' ⟨rfl, rfl⟩)
    go_ret
    exact ⟨ret_str (str_of (encN_4 HV.out).symm), (Below.refl _ _).alloc (Nat.le_refl _) _⟩

theorem app_nil (a : ByteArray) : a ++ ⟨#[]⟩ = a := by
  cases a; simp [ByteArray.ext_iff]
theorem app_nums (a b : List Int) : strOfNums a ++ strOfNums b = strOfNums (a ++ b) := by
  simp [ByteArray.ext_iff, strOfNums]

set_option maxHeartbeats 400000 in
theorem l1b_1 (n : Int) (w : World) (h0 : 0 ≤ n) (h1 : n < 64) : Calls Try.prog 34 #[.int .i64 n, .int .i64 1] w fun e w' => e = .returned (.string (strOfNums [n])) ∧ Below w.heap.size w w' := by
  have cv := conv1
  go_enter Try.func34, Try.ntmps34
  go_wp2
  go_rounds 1
  go_rounds 1
  go_ret
  exact ⟨ret_str (app_nil _), (Below.refl _ _).alloc (Nat.le_refl _) _⟩
set_option maxHeartbeats 400000 in
theorem l1b_2 (n : Int) (w : World) (h0 : 64 ≤ n) (h1 : n < 16384) : Calls Try.prog 34 #[.int .i64 n, .int .i64 2] w fun e w' => e = .returned (.string (strOfNums [64 + n / 256, n % 256])) ∧ Below w.heap.size w w' := by
  have cv := conv1
  go_enter Try.func34, Try.ntmps34
  go_wp2
  go_rounds 2
  go_rounds 2
  go_ret
  exact ⟨ret_str (by rw [app_nil, app_nums]; rfl), ((Below.refl _ _).alloc (Nat.le_refl _) _).alloc (by simp) _⟩
set_option maxHeartbeats 1000000 in
theorem l1b_4 (n : Int) (w : World) (h0 : 16384 ≤ n) (h1 : n ≤ 1073741823) : Calls Try.prog 34 #[.int .i64 n, .int .i64 4] w fun e w' => e = .returned (.string (strOfNums [128 + n / 16777216, n / 65536 % 256, n / 256 % 256, n % 256])) ∧ Below w.heap.size w w' := by
  have cv := conv1
  have e1 : 128 + n / 256 / 256 / 256 = 128 + n / 16777216 := by omega
  have e2 : n / 256 / 256 % 256 = n / 65536 % 256 := by omega
  have E1 := Lib.hid e1
  have E2 := Lib.hid e2
  clear e1 e2
  go_enter Try.func34, Try.ntmps34
  go_wp2
  go_rounds 3
  go_rounds 4
  go_ret
  exact ⟨ret_str (by rw [app_nil, app_nums, app_nums, app_nums, E1.out, E2.out]; rfl), ((((Below.refl _ _).alloc (Nat.le_refl _) _).alloc (by simp) _).alloc (by simp; omega) _).alloc (by simp; omega) _⟩

/-- 'l1Bytes(n, l1Len(n))' where n can be encoded. -/
theorem l1b_any (n : Int) (w : World) (h0 : 0 ≤ n) (h1 : n ≤ 1073741823) : Calls Try.prog 34 #[.int .i64 n, .int .i64 (vlen n)] w fun e w' => e = .returned (.string (encS n)) ∧ Below w.heap.size w w' := by
  by_cases g1 : n < 64
  · have hv : vlen n = 1 := by unfold vlen; omega
    rw [hv]; unfold encS; rw [encN_1 hv]; exact l1b_1 n w h0 g1
  by_cases g2 : n < 16384
  · have hv : vlen n = 2 := by unfold vlen; omega
    rw [hv]; unfold encS; rw [encN_2 hv]; exact l1b_2 n w (by omega) g2
  · have hv : vlen n = 4 := by unfold vlen; omega
    rw [hv]; unfold encS; rw [encN_4 hv]; exact l1b_4 n w (by omega) h1

set_option maxHeartbeats 400000 in
theorem senc_any (n : Int) (w : World) : Calls Try.prog 13 #[.int .i64 n] w fun e w' => e = .returned (.string (encS n)) ∧ Below w.heap.size w w' := by
  by_cases h : 0 ≤ n ∧ n ≤ 1073741823
  · have hd : decide (0 ≤ n ∧ n ≤ 1073741823) = true := decide_eq_true h
    have HD := Lib.hid hd
    obtain ⟨h1, h2⟩ := h
    clear hd
    go_enter Try.func13, Try.ntmps13
    go_wp2_with (first | (go_at_call 33; refine (l6In_any _ _ _ _).mono ?_; rw [HD.out]; rintro e w' ⟨rfl, rfl⟩) | (go_at_call 35; refine (l1Len_any _ _ h1 h2).mono ?_; rintro e w' ⟨rfl, rfl⟩) | (go_at_call 34; refine (l1b_any _ _ h1 h2).mono ?_; rintro e w' ⟨rfl, hb⟩))
    go_ret
    exact ⟨rfl, by assumption⟩
  · have hd : decide (0 ≤ n ∧ n ≤ 1073741823) = false := decide_eq_false h
    have HD := Lib.hid hd
    have hv : vlen n = 0 := by unfold vlen; omega
    have HV := Lib.hid hv
    clear hd hv h
    go_enter Try.func13, Try.ntmps13
    go_wp2_with (go_at_call 33; refine (l6In_any _ _ _ _).mono ?_; rw [HD.out]; rintro e w' ⟨rfl, rfl⟩)
    go_ret
    exact ⟨ret_str (by unfold encS; rw [encN_0 HV.out]; rfl), Below.refl _ _⟩

set_option maxHeartbeats 400000 in
theorem ivenc_any (n : Int) (w : World) : Calls Try.prog 12 #[.int .i64 n] w fun e w' => e = .returned (.string (encS n)) ∧ Below w.heap.size w w' := by
  go_enter Try.func12, Try.ntmps12
  go_wp2_with (go_at_call 32; refine (ienc_any _ _).mono ?_; rintro e w' ⟨rfl, hb⟩)
  go_ret
  exact ⟨rfl, by assumption⟩

end Go.Proofs.Ytfppnaaofkicaaa
