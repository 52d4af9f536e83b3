/- The laws VarintShortest and VarintMinimal: the walks. -/
import Derived.Test.YtfppnaaofkicaaaLaw1
import Derived.Test.YtfppnaaofkicaaaStrDraw
namespace Go.Proofs.Ytfppnaaofkicaaa
open Go.RowKit
set_option linter.unusedVariables false
set_option linter.unusedSimpArgs false

def GotStr (w : World) (e : Ending) (w' : World) : Prop := ∃ t : ByteArray, t.size ≤ 12 ∧ e = .returned (.string t) ∧ Below w.heap.size w w'

set_option maxHeartbeats 400000 in
theorem drawDec_any (a : Option Addr) (len cap : Nat) (zs : List Int) (w : World) (h : IsRow .u8 w a len cap zs) :
    Calls Try.prog 18 #[.slice a len cap] w (GotStr w) := by
  have H := Lib.hid h
  clear h
  go_enter Try.func18, Try.ntmps18
  go_wp2_with fail
  refine (open_any a len cap zs w H.out).mono ?_
  rintro e w1 ⟨rfl, hb, hR⟩
  go_wp2_with fail
  refine (bytes_any _ 0 _ hR (by omega)).mono ?_
  rintro e w2 ⟨t, ht, rfl, hg, _⟩
  have hbb := below_grown hb hg
  go_wp2_with fail
  go_ret
  exact ⟨t, ht, rfl, hbb⟩

set_option maxHeartbeats 400000 in
theorem drawMin_any (a : Option Addr) (len cap : Nat) (zs : List Int) (w : World) (h : IsRow .u8 w a len cap zs) :
    Calls Try.prog 20 #[.slice a len cap] w (GotStr w) := by
  have H := Lib.hid h
  clear h
  go_enter Try.func20, Try.ntmps20
  go_wp2_with fail
  refine (open_any a len cap zs w H.out).mono ?_
  rintro e w1 ⟨rfl, hb, hR⟩
  go_wp2_with fail
  refine (pick_rdr _ _ _ _ hR (by omega) (by omega) (by omega)).mono ?_
  rintro e w2 ⟨x, hx, rfl, hg, hR2⟩
  by_cases hx0 : x = 0
  · have hx1 : ((x : Int) == 0) = true := by rw [hx0]; rfl
    clear hx0
    go_wp2_with fail
    refine (num_any _ _ _ hR2 (by omega)).mono ?_
    rintro e w3 ⟨n, hn, rfl, hg3, hR3⟩
    have hbb := below_grown hb (hg.trans hg3)
    clear hb hg hg3
    go_wp2_with fail
    refine (senc_any n _).mono ?_
    rintro e w4 ⟨rfl, hb4⟩
    have hb5 := hbb.trans (hb4.mono hbb.size)
    have hle := enc_le n
    clear hb4
    go_wp2_with fail
    go_ret
    exact ⟨_, by omega, rfl, hb5⟩
  · have hx1 : ((x : Int) == 0) = false := by rw [beq_eq_false_iff_ne]; omega
    clear hx0
    go_wp2_with fail
    refine (bytes_any _ _ _ hR2 (by omega)).mono ?_
    rintro e w3 ⟨t, ht, rfl, hg3, hR3⟩
    have hbb := below_grown hb (hg.trans hg3)
    go_wp2_with fail
    go_ret
    exact ⟨t, ht, rfl, hbb⟩

set_option maxHeartbeats 400000 in
theorem shortest_walk (a : Option Addr) (len cap : Nat) (zs : List Int) (w : World) (h : IsRow .u8 w a len cap zs) :
    Calls Try.prog 5 #[.slice a len cap] w fun e w' => e = .returned (.bool true) ∧ Below w.heap.size w w' := by
  have H := Lib.hid h
  clear h
  by_cases hl : 1048576 < len
  · go_enter Try.func5, Try.ntmps5
    go_wp2
    go_ret
    exact ⟨rfl, Below.refl _ _⟩
  go_enter Try.func5, Try.ntmps5
  go_wp2_with fail
  refine (drawDec_any a len cap zs w H.out).mono ?_
  rintro e w1 ⟨s, hs, rfl, hb⟩
  have HB := Lib.hid hb
  have hsm : s.size ≤ maxLen := by unfold maxLen; omega
  have HS := Lib.hid hsm
  clear hb hsm
  by_cases hk : 0 < dsz s
  · have k1 : dok s = true := decide_eq_true hk
    obtain ⟨v0, v1⟩ := vlen_dval_le s hk
    go_wp2_with (first | (go_at_call 14; refine (idec_any _ _ HS.out).mono ?_; rintro e w2 ⟨rfl, rfl⟩) | (go_at_call 19; refine (sdec_any _ _ HS.out).mono ?_; rintro e w3 ⟨rfl, hb3⟩) | (go_at_call 15; refine (ivlen_any _ _).mono ?_; rintro e w4 ⟨rfl, rfl⟩))
    go_ret
    exact ⟨ret_bool (by first | (simp; done) | (simp; omega)), HB.out.trans (hb3.mono HB.out.size)⟩
  · have k1 : dok s = false := decide_eq_false hk
    clear hk
    go_wp2_with (first | (go_at_call 14; refine (idec_any _ _ HS.out).mono ?_; rintro e w2 ⟨rfl, rfl⟩) | (go_at_call 19; refine (sdec_any _ _ HS.out).mono ?_; rintro e w3 ⟨rfl, hb3⟩))
    go_ret
    exact ⟨ret_bool (by first | (simp; done) | (simp; omega)), HB.out.trans (hb3.mono HB.out.size)⟩

set_option maxHeartbeats 400000 in
theorem minimal_walk (a : Option Addr) (len cap : Nat) (zs : List Int) (w : World) (h : IsRow .u8 w a len cap zs) :
    Calls Try.prog 6 #[.slice a len cap] w fun e w' => e = .returned (.bool true) ∧ Below w.heap.size w w' := by
  have H := Lib.hid h
  clear h
  by_cases hl : 1048576 < len
  · go_enter Try.func6, Try.ntmps6
    go_wp2
    go_ret
    exact ⟨rfl, Below.refl _ _⟩
  go_enter Try.func6, Try.ntmps6
  go_wp2_with fail
  refine (drawMin_any a len cap zs w H.out).mono ?_
  rintro e w1 ⟨s, hs, rfl, hb⟩
  have HB := Lib.hid hb
  have hsm : s.size ≤ maxLen := by unfold maxLen; omega
  have HS := Lib.hid hsm
  clear hb hsm
  go_wp2_with fail
  refine (imin_any _ _ HS.out).mono ?_
  rintro e w2 ⟨rfl, rfl⟩
  go_wp2_with fail
  refine (smin_any _ _ HS.out).mono ?_
  rintro e w3 ⟨rfl, hb3⟩
  have HB3 := Lib.hid (HB.out.trans (hb3.mono HB.out.size))
  clear hb3
  by_cases hk : 0 < dsz s
  · have k1 : dok s = true := decide_eq_true hk
    have k2 := mini_enc s hk
    clear hk
    go_wp2_with (first | (go_at_call 14; refine (idec_any _ _ HS.out).mono ?_; rintro e w4 ⟨rfl, rfl⟩) | (go_at_call 12; refine (ivenc_any _ _).mono ?_; rintro e w5 ⟨rfl, hb5⟩))
    go_ret
    exact ⟨ret_bool (by first | (simp; done) | (simp; omega)), HB3.out.trans (hb5.mono HB3.out.size)⟩
  · have k1 : dok s = false := decide_eq_false hk
    have k2 : mini s = false := decide_eq_false (fun h => hk h.1)
    clear hk
    go_wp2_with (first | (go_at_call 14; refine (idec_any _ _ HS.out).mono ?_; rintro e w4 ⟨rfl, rfl⟩))
    go_ret
    exact ⟨ret_bool (by first | (simp; done) | (simp; omega)), HB3.out⟩

end Go.Proofs.Ytfppnaaofkicaaa
