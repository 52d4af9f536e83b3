/- Chapter 1: contracts of VarintJoin, the program's and the model's. -/
import Derived.Test.YtfppnaaofkicaaaBld
import Derived.Test.YtfppnaaofkicaaaMin
import Derived.Test.YtfppnaaofkicaaaInts
import Derived.Deep.RegionHeld3
namespace Go.Proofs.Ytfppnaaofkicaaa
open Go.RowKit
set_option linter.unusedVariables false
set_option linter.unusedSimpArgs false

def joinS (xs : List Int) : ByteArray := xs.foldl (fun a n => a ++ encS n) ⟨#[]⟩
def okAll (xs : List Int) : Bool := xs.all (fun n => decide (0 ≤ n ∧ n ≤ 1073741823))
def jok (xs : List Int) : Bool := decide (xs.length ≤ 20) && okAll xs
def jres (xs : List Int) : ByteArray := if jok xs then joinS xs else ⟨#[]⟩
theorem joinS_step (xs : List Int) (k : Nat) (h : k < xs.length) : joinS (xs.take (k + 1)) = joinS (xs.take k) ++ encS (xs.getD k 0) := by
  unfold joinS
  rw [List.take_succ_eq_append_getElem h, List.foldl_append]
  simp [List.getD_eq_getElem?_getD, List.getElem?_eq_getElem h]
theorem okAll_step (xs : List Int) (k : Nat) (h : k < xs.length) (ho : okAll (xs.take k) = true) (hk : 0 ≤ xs.getD k 0 ∧ xs.getD k 0 ≤ 1073741823) : okAll (xs.take (k + 1)) = true := by
  unfold okAll at ho ⊢
  rw [List.take_succ_eq_append_getElem h, List.all_append, ho]
  have e : xs.getD k 0 = xs[k] := by rw [List.getD_eq_getElem?_getD, List.getElem?_eq_getElem h]; rfl
  rw [e] at hk
  simp; exact hk
theorem all_at (xs : List Int) (k : Nat) (h : k < xs.length) (ho : okAll xs = true) : 0 ≤ xs.getD k 0 ∧ xs.getD k 0 ≤ 1073741823 := by
  have e : xs.getD k 0 = xs[k] := by rw [List.getD_eq_getElem?_getD, List.getElem?_eq_getElem h]; rfl
  rw [e]
  unfold okAll at ho
  rw [List.all_eq_true] at ho
  simpa using ho _ (List.getElem_mem h)
theorem okAll_bad (xs : List Int) (k : Nat) (h : k < xs.length) (hk : ¬ (0 ≤ xs.getD k 0 ∧ xs.getD k 0 ≤ 1073741823)) : okAll xs = false := by
  have e : xs.getD k 0 = xs[k] := by rw [List.getD_eq_getElem?_getD, List.getElem?_eq_getElem h]; rfl
  rw [e] at hk
  unfold okAll
  rw [List.all_eq_false]
  exact ⟨xs[k], List.getElem_mem h, by simpa using hk⟩
theorem joinS_size : ∀ (xs : List Int), (joinS xs).size ≤ 4 * xs.length := by
  intro xs
  unfold joinS
  have key : ∀ (l : List Int) (a : ByteArray), (l.foldl (fun a n => a ++ encS n) a).size ≤ a.size + 4 * l.length := by
    intro l
    induction l with
    | nil => intro a; simp
    | cons n l ih =>
      intro a
      have := ih (a ++ encS n)
      have h4 : (encS n).size ≤ 4 := by have := encS_size n; have := vlen_cases n; omega
      rw [size_app] at this
      simp only [List.foldl_cons, List.length_cons]
      omega
  have := key xs ⟨#[]⟩
  have z : (⟨#[]⟩ : ByteArray).size = 0 := rfl
  omega
theorem keepJ {w0 w1 w2 : World} {a : Addr} {v : Value} (h : w1.cell? a = some v ∧ Below w0.heap.size w0 w1) (hb : Below w1.heap.size w1 w2) : w2.cell? a = some v ∧ Below w0.heap.size w0 w2 :=
  ⟨(hb.cell (World.block_lt_of_cell? w1 _ h.1)).trans h.1, h.2.trans (hb.mono h.2.size)⟩

set_option maxHeartbeats 1000000 in
theorem l1Join_any (v : Value) (xs : List Int) (w : World) (h : Ints w v xs) (hx : xs.length ≤ 1000000) (hok : okAll xs = true) :
    Calls Try.prog 43 #[v] w fun e w' => e = .returned (.string (joinS xs)) ∧ Below w.heap.size w w' := by
  obtain ⟨a, c, rfl, h⟩ := h
  have HOK := Lib.hid hok
  clear hok
  by_cases h0 : xs = []
  · subst h0
    clear h
    go_enter Try.func43, Try.ntmps43
    go_wp2_with fail
    go_rounds 1
    go_ret
    exact ⟨rfl, Below.refl _ _⟩
  obtain ⟨g, o, rfl, hc⟩ := h h0
  have HC := Lib.hid hc
  clear hc h h0
  go_enter Try.func43, Try.ntmps43
  go_wp2_with fail
  go_loopw [3, 4] (fun ov iv wr => ∃ k : Nat, k ≤ xs.length ∧ iv = .int .i64 k ∧ ov = .string (joinS (xs.take k)) ∧ Below w.heap.size w wr) (fun _ iv _ => xs.length - (intOf iv).toNat)
  case atStart => exact ⟨0, Nat.zero_le _, rfl, rfl, Below.refl _ _⟩
  case round =>
    obtain ⟨k, hk, rfl, rfl, hbel⟩ := hrel
    have HB := Lib.hid hbel
    clear hbel
    by_cases hlt : k < xs.length
    · have e1 := HC.out k hlt
      have e1 := (HB.out.cell (World.block_lt_of_cell? w _ e1)).trans e1
      have b1 : (k : Int) < (xs.length : Int) := by omega
      have hz := all_at xs k hlt HOK.out
      have HS := Lib.hid (joinS_step xs k hlt)
      have hsz := joinS_size (xs.take k)
      have hsz2 : (xs.take k).length ≤ k := List.length_take_le _ _
      generalize xs.getD k 0 = z at e1 hz HS
      obtain ⟨z0, z1⟩ := hz
      have h4 : (encS z).size ≤ 4 := by have := encS_size z; have := vlen_cases z; omega
      have S0 := Lib.hid (show wr.cell? ⟨g, o + k, none⟩ = some (.int .i64 z) ∧ Below w.heap.size w wr from ⟨e1, HB.out⟩)
      generalize joinS (xs.take k) = acc at hsz HS
      have hcat : ¬ 9223372036854775807 < acc.size + (encS z).size := by omega
      go_wp2_with fail
      go_region_held3 (fun w' => w'.cell? ⟨g, o + k, none⟩ = some (.int .i64 z) ∧ Below w.heap.size w w') (first | assumption | exact ⟨S0.out.1, S0.out.2.drew⟩ | exact keepJ (by assumption) (by assumption)) (first | (go_at_call 35; refine (l1Len_any _ _ z0 z1).mono ?_; rintro e w' ⟨rfl, rfl⟩) | (go_at_call 34; refine (l1b_any _ _ z0 z1).mono ?_; rintro e w' ⟨rfl, hbx⟩))
      have hS := ‹_ ∧ Below w.heap.size w w'›
      have HS2 := Lib.hid hS.2
      clear hS
      go_wp2_with fail
      go_roundw
      case rel => exact ⟨k + 1, by omega, by go_num, by rw [HS.out], HS2.out⟩
      case measure => simp [intOf]; omega
    · have he : k = xs.length := by omega
      have HE := Lib.hid he
      clear he
      go_wp2
      go_ret
      exact ⟨ret_str (by rw [HE.out, List.take_of_length_le (Nat.le_refl _)]), HB.out⟩

theorem at_below {T e : TypeId} {B b : Nat} {p : Value} {bs : List Value} {w w' : World} (h : Lib.BuilderAt T e B b p bs w) (hb : Below w.heap.size w w') : Lib.BuilderAt T e B b p bs w' := by
  obtain ⟨h0, v, h1, h2, h3⟩ := h
  exact ⟨h0, v, (hb.block b (by have := (Array.getElem?_eq_some_iff.1 h1).1; exact this)).trans h1, own_below h2 hb, h3⟩
theorem builder_below {T e : TypeId} {B b : Nat} {bs : List Value} {w w' : World} (h : Lib.IsBuilder T e B b bs w) (hb : Below w.heap.size w w') : Lib.IsBuilder T e B b bs w' := by
  rcases h with h | h
  · exact .inl (at_below h hb)
  · exact .inr (at_below h hb)

def Joined (w : World) (xs : List Int) (e : Ending) (w' : World) : Prop := e = .returned (.tuple #[.string (jres xs), .bool (jok xs)]) ∧ Below w.heap.size w w'
theorem Joined.no {w w' : World} {xs : List Int} (h : jok xs = false) (hb : Below w.heap.size w w') : Joined w xs (.returned (.tuple #[.string ⟨#[]⟩, .bool false])) w' := by
  refine ⟨?_, hb⟩
  have : jres xs = ⟨#[]⟩ := by unfold jres; rw [h]; rfl
  rw [this, h]
theorem Joined.yes {w w' : World} {xs : List Int} (h : jok xs = true) (hb : Below w.heap.size w w') : Joined w xs (.returned (.tuple #[.string (joinS xs), .bool true])) w' := by
  refine ⟨?_, hb⟩
  have : jres xs = joinS xs := by unfold jres; rw [h]; rfl
  rw [this, h]

set_option maxHeartbeats 1000000 in
theorem sjoin_any (v : Value) (xs : List Int) (w : World) (h : Ints w v xs) (hx : xs.length ≤ 1048576) :
    Calls Try.prog 25 #[v] w (Joined w xs) := by
  have HV := Lib.hid h
  obtain ⟨a, c, rfl, h⟩ := h
  have HC := Lib.hid h
  clear h
  go_enter Try.func25, Try.ntmps25
  go_wp2_with fail
  go_loop [4] (fun iv => ∃ k : Nat, k ≤ xs.length ∧ iv = .int .i64 k ∧ Hid (okAll (xs.take k) = true)) (fun iv => xs.length - (intOf iv).toNat)
  case atStart => exact ⟨0, Nat.zero_le _, rfl, rfl⟩
  case round =>
    obtain ⟨k, hk, rfl, HK⟩ := hrel
    by_cases hlt : k < xs.length
    · obtain ⟨g, o, rfl, hc⟩ := HC.out (by rintro rfl; simp at hlt)
      have e1 := hc k hlt
      have b1 : (k : Int) < (xs.length : Int) := by omega
      have HCC := Lib.hid hc
      clear hc
      have HST := Lib.hid (okAll_step xs k hlt HK.out)
      have HBD := Lib.hid (okAll_bad xs k hlt)
      generalize xs.getD k 0 = z at e1 HST HBD
      by_cases hz : 0 ≤ z ∧ z ≤ 1073741823
      · have HD := Lib.hid (show decide (0 ≤ z ∧ z ≤ 1073741823) = true from decide_eq_true hz)
        have HZ := Lib.hid hz
        clear hz
        go_wp2_with fail
        refine (l6In_any _ _ _ _).mono ?_
        rw [HD.out]
        rintro e w' ⟨rfl, rfl⟩
        go_wp2_with fail
        go_round
        case rel => exact ⟨k + 1, by omega, by go_num, HST.out HZ.out⟩
        case measure => simp [intOf]; omega
      · have HD := Lib.hid (show decide (0 ≤ z ∧ z ≤ 1073741823) = false from decide_eq_false hz)
        have HZ := Lib.hid (HBD.out hz)
        clear hz
        go_wp2_with fail
        refine (l6In_any _ _ _ _).mono ?_
        rw [HD.out]
        rintro e w' ⟨rfl, rfl⟩
        go_wp2_with fail
        go_ret2
        exact Joined.no (by unfold jok; rw [HZ.out, Bool.and_false]) (Below.refl _ _)
    · have he : okAll xs = true := by
        have := HK.out
        rwa [List.take_of_length_le (by omega)] at this
      have HE := Lib.hid he
      clear he
      by_cases h20 : 20 < xs.length
      · have h20' : (20 : Int) < (xs.length : Int) := by omega
        go_wp2_with fail
        go_ret2
        exact Joined.no (by unfold jok; rw [decide_eq_false (by omega)]; rfl) (Below.refl _ _)
      · have h20' : ¬ (20 : Int) < (xs.length : Int) := by omega
        go_wp2_with fail
        refine (l1Join_any _ xs w HV.out (by omega) HE.out).mono ?_
        rintro e w' ⟨rfl, hb⟩
        go_wp2_with fail
        go_ret2
        exact Joined.yes (by unfold jok; rw [decide_eq_true (by omega), HE.out]; rfl) hb

/-- The bytes that a builder holds. -/
def cellsS (s : ByteArray) : List Value := Lib.byteCells s.data.toList
theorem cellsS_app (s t : ByteArray) : cellsS s ++ Lib.strCells t = cellsS (s ++ t) := by
  unfold cellsS
  rw [Lib.strCells_eq]
  simp [Lib.byteCells]
theorem cellsS_len (s : ByteArray) : (cellsS s).length = s.size := by
  unfold cellsS; rw [Lib.byteCells_length]; simp

set_option maxHeartbeats 1000000 in
theorem ijoin_any (v : Value) (xs : List Int) (w : World) (h : Ints w v xs) (hx : xs.length ≤ 1048576) :
    Calls Try.prog 24 #[v] w (Joined w xs) := by
  obtain ⟨a, c, rfl, h⟩ := h
  have HC := Lib.hid h
  clear h
  by_cases h20 : 20 < xs.length
  · have h20' : (20 : Int) < (xs.length : Int) := by omega
    go_enter Try.func24, Try.ntmps24
    go_wp2_with fail
    go_ret2
    exact Joined.no (by unfold jok; rw [decide_eq_false (by omega)]; rfl) (Below.refl _ _)
  have h20' : ¬ (20 : Int) < (xs.length : Int) := by omega
  go_enter Try.func24, Try.ntmps24
  go_wp2_with fail
  have F0 := Lib.hid (Lib.fresh_isBuilder 54 5 w)
  go_loopw [13] (fun iv wr => ∃ k : Nat, k ≤ xs.length ∧ iv = .int .i64 k ∧ Hid (okAll (xs.take k) = true) ∧ Lib.IsBuilder 54 5 w.heap.size w.heap.size (cellsS (joinS (xs.take k))) wr ∧ Below w.heap.size w wr) (fun iv _ => xs.length - (intOf iv).toNat)
  case atStart => exact ⟨0, Nat.zero_le _, rfl, rfl, F0.out, (Below.refl _ _).alloc (Nat.le_refl _) _⟩
  case round =>
    obtain ⟨k, hk, rfl, HK, hbl, hbel⟩ := hrel
    have HBL := Lib.hid hbl
    have HB := Lib.hid hbel
    clear hbl hbel
    by_cases hlt : k < xs.length
    · obtain ⟨g, o, rfl, hc⟩ := HC.out (by rintro rfl; simp at hlt)
      have e1 := hc k hlt
      have e1 := (HB.out.cell (World.block_lt_of_cell? w _ e1)).trans e1
      have b1 : (k : Int) < (xs.length : Int) := by omega
      have HCC := Lib.hid hc
      clear hc
      have HST := Lib.hid (okAll_step xs k hlt HK.out)
      have HBD := Lib.hid (okAll_bad xs k hlt)
      have HS := Lib.hid (joinS_step xs k hlt)
      have hsz := joinS_size (xs.take k)
      have hsz2 : (xs.take k).length ≤ k := List.length_take_le _ _
      generalize xs.getD k 0 = z at e1 HST HBD HS
      by_cases hz : 0 ≤ z ∧ z ≤ 1073741823
      · have hv : (vlen z == 0) = false := by rw [beq_eq_false_iff_ne]; unfold vlen; omega
        have HZ := Lib.hid hz
        have h4 : (encS z).size ≤ 4 := by have := encS_size z; have := vlen_cases z; omega
        clear hz
        go_wp2_with fail
        refine (size_any _ _).mono ?_
        rintro e w' ⟨rfl, rfl⟩
        go_wp2_with fail
        refine (ienc_any _ _).mono ?_
        rintro e w1 ⟨rfl, hb1⟩
        have HB1 := Lib.hid (HB.out.trans (hb1.mono HB.out.size))
        have HBL1 := Lib.hid (builder_below HBL.out hb1)
        clear hb1
        go_wp2_with fail
        refine (write_any _ _ _ (encS z) _ HBL1.out (by rw [cellsS_len]; omega) HB1.out.size).mono ?_
        rintro e w2 ⟨rfl, hat, hb2⟩
        have HB2 := Lib.hid (HB1.out.trans hb2)
        rw [cellsS_app, ← HS.out] at hat
        have HAT := Lib.hid hat
        clear hat hb2
        go_wp2_with fail
        go_roundw
        case rel => exact ⟨k + 1, by omega, by go_num, HST.out HZ.out, .inr HAT.out, HB2.out⟩
        case measure => simp [intOf]; omega
      · have hv : (vlen z == 0) = true := by rw [beq_iff_eq]; unfold vlen; omega
        have HZ := Lib.hid (HBD.out hz)
        clear hz
        go_wp2_with fail
        refine (size_any _ _).mono ?_
        rintro e w' ⟨rfl, rfl⟩
        go_wp2_with fail
        go_ret2
        exact Joined.no (by unfold jok; rw [HZ.out, Bool.and_false]) HB.out
    · have he : okAll xs = true := by
        have := HK.out
        rwa [List.take_of_length_le (by omega)] at this
      have HE := Lib.hid he
      clear he
      have hbl2 := HBL.out
      rw [List.take_of_length_le (by omega)] at hbl2
      have HBL2 := Lib.hid hbl2
      clear hbl2
      go_wp2_with fail
      refine (bstring_any _ _ _ _ HBL2.out HB.out.size).mono ?_
      rintro e w' ⟨rfl, hb⟩
      have HB3 := Lib.hid (HB.out.trans hb)
      clear hb
      go_wp2_with fail
      go_ret2
      exact Joined.yes (by unfold jok; rw [decide_eq_true (by omega), HE.out]; rfl) HB3.out

end Go.Proofs.Ytfppnaaofkicaaa
