/- Sets of ints kept in a map of bools. -/
import Derived.Test.YtakfohcnclmkbabIVb
import Derived.Maps.OwnSet
namespace Go.Proofs.Ytakfohcnclmkbab
open Go.RowKit Go.Maps
set_option linter.unusedVariables false
set_option linter.unusedSimpArgs false

def i64ok (x : Int) : Prop := (Lit.int .i64 x).wf = true
theorem i64ok_of {x : Int} (h : -9223372036854775808 ≤ x) (h2 : x < 9223372036854775808) : i64ok x := by
  have h1 : IntKind.min .i64 = -9223372036854775808 := rfl
  have h3 : IntKind.max .i64 = 9223372036854775807 := rfl
  unfold i64ok Lit.wf
  simp only [h1, h3, Bool.and_eq_true, decide_eq_true_iff]
  omega
theorem i64ok_atom {x : Int} (h : aok x = true) : i64ok x := by
  have := aok_iff.1 h
  exact i64ok_of (by omega) (by omega)

theorem plainElem_bool_inv {H : Type} {P : Program} {e : TypeId} (he : P.underlying e = some .bool) {v : Value} {z : DataW H × List MemPlace} (h : plainElem P e v = some z) : ∃ x, v = .bool x ∧ z = (.lit (.bool x), []) := by
  unfold plainElem at h
  rw [he] at h
  cases v <;> simp at h
  exact ⟨_, rfl, h.symm⟩

/-- Block m is a map whose true keys are those of L. -/
def MapHas (w : World) (m : Nat) (L : List Int) : Prop :=
  ∃ D : DataW Unit, w.ownsMap Try.prog 3 (plainElem Try.prog 4) m L.length D ∧ ∀ x : Int, i64ok x → Maps.has D (.int .i64 x) = decide (x ∈ L) ∧ D.atKey (.int .i64 x) (.lit (.bool false)) = .lit (.bool (decide (x ∈ L)))

theorem keyed : Keyed Try.prog 3 := int_keyed Try.underlying3
theorem key_of {x : Int} (h : i64ok x) : keyOf Try.prog 3 (.int .i64 x) = some (.int .i64 x) := keyOf_int_mk Try.underlying3 h
theorem MapHas.new (w : World) : MapHas (w.alloc (.map #[] 0)) w.heap.size [] :=
  ⟨_, World.ownsMap_made w Try.prog _ _, fun x hx => ⟨rfl, rfl⟩⟩
theorem MapHas.look {w : World} {m : Nat} {L : List Int} (h : MapHas w m L) {x : Int} (hx : i64ok x) : (Instr.lookup 56 (.map (some m)) (.int .i64 x) false).run Try.prog w = .ok (.bool (decide (x ∈ L))) w := by
  obtain ⟨D, ho, hD⟩ := h
  obtain ⟨v, ps, hrun, hv⟩ := ho.lookup keyed (t := 56) (e := 4) Try.underlying56 (z := .bool false) (by rfl) (plainElem_bool Try.underlying4 false) (key_of hx)
  obtain ⟨b, rfl, hz⟩ := plainElem_bool_inv Try.underlying4 hv
  rw [(hD x hx).2] at hz
  simp at hz
  rw [hrun, hz.1]
theorem MapHas.kept {w w' : World} {m : Nat} {L : List Int} (h : MapHas w m L) (hb : w'.heap[m]? = w.heap[m]?) : MapHas w' m L := by
  obtain ⟨D, ⟨es, clock, h1, h2⟩, hD⟩ := h
  exact ⟨D, ⟨es, clock, by rw [hb]; exact h1, h2⟩, hD⟩
theorem MapHas.lt {w : World} {m : Nat} {L : List Int} (h : MapHas w m L) : m < w.heap.size := by
  obtain ⟨D, ho, _⟩ := h
  exact ho.lt
theorem MapHas.nocell {w : World} {m : Nat} {L : List Int} (h : MapHas w m L) {a : Addr} (ha : a.block = m) : w.cell? a = none := by
  obtain ⟨D, ⟨es, clock, h1, _⟩, _⟩ := h
  unfold World.cell?
  rw [ha, h1]
theorem MapHas.ne {w : World} {m : Nat} {L : List Int} (h : MapHas w m L) {a : Addr} {v : Value} (ha : w.cell? a = some v) : a.block ≠ m := fun e => by rw [h.nocell e] at ha; cases ha

theorem keyLit (x : Int) : WideAt.IsKeyLit (.int .i64 x) := by simp [WideAt.IsKeyLit]
theorem MapHas.put {D : DataW Unit} {L : List Int} {x : Int} (hM : IsMap D) (hD : ∀ x : Int, i64ok x → Maps.has D (.int .i64 x) = decide (x ∈ L) ∧ D.atKey (.int .i64 x) (.lit (.bool false)) = .lit (.bool (decide (x ∈ L)))) (hx : i64ok x) :
    ∀ y : Int, i64ok y → Maps.has (D.put (.int .i64 x) (.lit (.bool true))) (.int .i64 y) = decide (y ∈ L ++ [x]) ∧ (D.put (.int .i64 x) (.lit (.bool true))).atKey (.int .i64 y) (.lit (.bool false)) = .lit (.bool (decide (y ∈ L ++ [x]))) := by
  intro y hy
  by_cases e : y = x
  · subst e
    rw [has_put_same hM (keyLit y), atKey_put_same hM (keyLit y)]
    simp
  · have e2 : (Lit.int .i64 y) ≠ .int .i64 x := by intro h; injection h with _ h; exact e h
    rw [has_put_other e2, atKey_put_other e2, (hD y hy).1, (hD y hy).2]
    have : (y ∈ L ++ [x]) ↔ y ∈ L := by simp [e]
    simp [this]

/-- What changes but blocks of X. -/
structure But (X : Nat → Prop) (w w' : World) : Prop where
  os : w'.os = w.os
  tape : w'.tape = w.tape
  output : w'.output = w.output
  size : w.heap.size ≤ w'.heap.size
  block : ∀ b, b < w.heap.size → ¬ X b → w'.heap[b]? = w.heap[b]?
theorem But.refl (X : Nat → Prop) (w : World) : But X w w := ⟨rfl, rfl, rfl, Nat.le_refl _, fun _ _ _ => rfl⟩
theorem But.trans {X : Nat → Prop} {a b c : World} (h : But X a b) (k : But X b c) : But X a c :=
  ⟨k.os.trans h.os, k.tape.trans h.tape, k.output.trans h.output, Nat.le_trans h.size k.size, fun n hn hx => (k.block n (Nat.lt_of_lt_of_le hn h.size) hx).trans (h.block n hn hx)⟩
theorem But.mono {X Y : Nat → Prop} {a b : World} (h : But X a b) (hx : ∀ n, n < a.heap.size → X n → Y n) : But Y a b := ⟨h.os, h.tape, h.output, h.size, fun n hn hy => h.block n hn fun hh => hy (hx n hn hh)⟩
theorem But.of_below {X : Nat → Prop} {a b : World} (h : Below a.heap.size a b) : But X a b := ⟨h.os, h.tape, h.output, h.size, fun n hn _ => h.block n hn⟩
theorem But.of_grown {a b : World} {m : Nat} (h : a.grownBy b (some m)) : But (· = m) a b := ⟨h.os, h.tape, h.output, h.size, fun n hn hx => h.block n hn fun e => hx (by injection e)⟩
theorem But.set (w : World) (b o : Nat) (v : Value) : But (· = b) w (w.setCell ⟨b, o, none⟩ v) := by
  have h := (Below.refl 0 w).setCell (p := ⟨b, o, none⟩) (Nat.zero_le _) v
  refine ⟨h.os, h.tape, h.output, h.size, fun n hn hx => ?_⟩
  unfold World.setCell
  simp only
  rw [Array.getElem?_modify, if_neg (fun e => hx e.symm)]
theorem But.below {X : Nat → Prop} {B : Nat} {a b : World} (h : But X a b) (hx : ∀ n, X n → B ≤ n) (hB : B ≤ a.heap.size) : Below B a b :=
  ⟨h.os, h.tape, h.output, h.size, fun n hn => h.block n (by omega) fun hh => by have := hx n hh; omega⟩
theorem But.cell {X : Nat → Prop} {a b : World} (h : But X a b) {p : Addr} {v : Value} (hx : ¬ X p.block) (hc : a.cell? p = some v) : b.cell? p = some v := by
  rw [World.cell?_of_block (h.block p.block (World.block_lt_of_cell? a _ hc) hx)]; exact hc

theorem Ints.map {w w' : World} {v : Value} {xs : List Int} {m : Nat} {L : List Int} (h : Ints w v xs) (hm : MapHas w m L) (hb : But (· = m) w w') : Ints w' v xs := by
  obtain ⟨a, c, rfl, h⟩ := h
  refine ⟨a, c, rfl, fun hne => ?_⟩
  obtain ⟨g, o, rfl, hc⟩ := h hne
  exact ⟨g, o, rfl, fun i hi => hb.cell (fun e => hm.ne (hc i hi) e) (hc i hi)⟩

def AddPost (w : World) (m : Nat) (L : List Int) (e : Ending) (w' : World) : Prop := e = .returned (.tuple #[]) ∧ MapHas w' m L ∧ But (· = m) w w'

set_option maxRecDepth 100000 in
set_option maxHeartbeats 1000000 in
theorem iadd_any (m : Nat) (v : Value) (k L : List Int) (w : World) (h : Ints w v k) (hm : MapHas w m L) (hk : ∀ a ∈ k, i64ok a) (hl : k.length ≤ 1000) (hL : L.length ≤ 1000) :
    Calls Try.prog 48 #[.map (some m), v] w (AddPost w m (L ++ k)) := by
  have hsh : ∃ a c, v = .slice a k.length c := by obtain ⟨a, c, rfl, _⟩ := h; exact ⟨a, c, rfl⟩
  have HV := Lib.hid h
  have HM := Lib.hid hm
  have HK := Lib.hid hk
  obtain ⟨a, c, rfl⟩ := hsh
  clear h hm hk
  go_enter Try.func48, Try.ntmps48
  go_wp2_with fail
  go_loopw [8] (fun iv wr => ∃ j : Nat, j ≤ k.length ∧ iv = .int .i64 (j : Int) ∧ Hid (MapHas wr m (L ++ k.take j)) ∧ Hid (But (· = m) w wr)) (fun iv _ => k.length - (intOf iv).toNat)
  case atStart => exact ⟨0, Nat.zero_le _, rfl, Lib.hid (by simpa using HM.out), Lib.hid (But.refl _ _)⟩
  case round =>
    obtain ⟨j, hj, rfl, HS, HB⟩ := hrel
    by_cases hlt : j < k.length
    · have hlt' : (j : Int) < (k.length : Int) := by omega
      obtain ⟨g, o, rfl, hc⟩ := (HV.out.map HM.out HB.out).cells (by rintro rfl; simp at hlt)
      have e1 := hc j hlt
      have HT := Lib.hid (takeI k j hlt)
      have HX := Lib.hid (HK.out _ (takeI k j hlt).2)
      clear hc
      generalize k.getD j 0 = x at *
      obtain ⟨D, ho, hD⟩ := HS.out
      have HO := Lib.hid ho
      have HD := Lib.hid hD
      clear ho hD
      go_wp2_with (at_mapUpdate; refine wpList_mapUpdate_own _ rfl _ _ _ 56 rfl 3 4 keyed Try.underlying56 _ m _ D rfl HO.out (by simp [maxLen]; omega) _ _ (.int .i64 x) rfl rfl (key_of HX.out) (.lit (.bool true)) [] (plainElem_bool Try.underlying4 true) ?_)
      intro w1 ho1 hg1
      have HS1 : Hid (MapHas w1 m (L ++ k.take (j + 1))) := by
        rw [HT.out.1, ← List.append_assoc]
        refine Lib.hid ⟨_, ?_, MapHas.put HO.out.isMap HD.out HX.out⟩
        have e : (L ++ k.take j ++ [x]).length = L.length + j + 1 := by simp; omega
        rw [e]; exact ho1
      have HB1 := Lib.hid (HB.out.trans (But.of_grown hg1))
      clear ho1 hg1
      go_wp2_with fail
      go_roundw
      case rel => exact ⟨j + 1, by omega, by go_num, HS1, HB1⟩
      case measure => simp [intOf]; omega
    · have hlt' : ¬ (j : Int) < (k.length : Int) := by omega
      have hS := HS.out
      rw [List.take_of_length_le (by omega)] at hS
      have HS2 := Lib.hid hS
      clear hS
      go_wp2_with fail
      go_end0
      exact ⟨rfl, HS2.out, HB.out⟩

end Go.Proofs.Ytakfohcnclmkbab
