/- The program's bodies of frames: which body a frame has. -/
import Derived.Test.YthflokonihegbaaSVal
import Derived.Handy
namespace Go.Proofs.Ythflokonihegbaa
open Go.RowKit
set_option linter.unusedVariables false
set_option linter.unusedSimpArgs false

def bodyX (k a b c : Int) (d : ByteArray) (v : Value) : Value :=
  if k = 0 then .agg #[] else if k = 1 then .agg #[] else if k = 2 then .agg #[.int .i64 a, v] else if k = 3 then .agg #[.int .i64 a, .int .i64 b, .int .i64 c, .string d] else if k = 4 then .agg #[.int .i64 a, .int .i64 b] else if k = 5 then .agg #[.int .i64 a] else if k = 6 then .agg #[.int .i64 a] else if k = 7 then .agg #[.int .i64 a, .int .i64 b] else if k = 8 then .agg #[.int .i64 a] else if k = 9 then .agg #[.string d] else if k = 10 then .agg #[.int .i64 a] else .agg #[]
def bodyT (k : Int) : TypeId :=
  if k = 0 then 78 else if k = 1 then 111 else if k = 2 then 80 else if k = 3 then 94 else if k = 4 then 97 else if k = 5 then 99 else if k = 6 then 100 else if k = 7 then 102 else if k = 8 then 104 else if k = 9 then 106 else if k = 10 then 82 else 0
def bodyV (f : Fr) (v : Value) : Value := .iface (bodyT f.k) (bodyX f.k f.a f.b f.c f.d v)
def bodyR (f : Fr) (v : Value) : Value := if 0 ≤ f.k ∧ f.k ≤ 10 then .tuple #[bodyV f v, .bool true] else .tuple #[.nilIface, .bool false]
theorem bodyR_yes {f : Fr} {v : Value} (h : 0 ≤ f.k ∧ f.k ≤ 10) : bodyR f v = .tuple #[bodyV f v, .bool true] := if_pos h
theorem bodyR_no {f : Fr} {v : Value} (h : ¬ (0 ≤ f.k ∧ f.k ≤ 10)) : bodyR f v = .tuple #[.nilIface, .bool false] := if_neg h

set_option maxRecDepth 100000 in
set_option maxHeartbeats 1000000 in
theorem bodyOf_0 (a b c : Int) (d : ByteArray) (ra : Option Addr) (rn rc : Nat) (rs : List (Int × Int)) (w : World) :
    Calls Try.prog 60 #[frV ⟨0, a, b, c, d, rs⟩ (.slice ra rn rc)] w fun e w' => e = .returned (bodyR ⟨0, a, b, c, d, rs⟩ (.slice ra rn rc)) ∧ Below w.heap.size w w' := by
  unfold frV
  go_enter Try.func60, Try.ntmps60
  go_wp2
  go_ret2
  exact ⟨rfl, (Below.refl _ _).alloc (Nat.le_refl _) _⟩
set_option maxRecDepth 100000 in
set_option maxHeartbeats 1000000 in
theorem bodyOf_1 (a b c : Int) (d : ByteArray) (ra : Option Addr) (rn rc : Nat) (rs : List (Int × Int)) (w : World) :
    Calls Try.prog 60 #[frV ⟨1, a, b, c, d, rs⟩ (.slice ra rn rc)] w fun e w' => e = .returned (bodyR ⟨1, a, b, c, d, rs⟩ (.slice ra rn rc)) ∧ Below w.heap.size w w' := by
  unfold frV
  go_enter Try.func60, Try.ntmps60
  go_wp2
  go_ret2
  exact ⟨rfl, (Below.refl _ _).alloc (Nat.le_refl _) _⟩
set_option maxRecDepth 100000 in
set_option maxHeartbeats 1000000 in
theorem bodyOf_2 (a b c : Int) (d : ByteArray) (ra : Option Addr) (rn rc : Nat) (rs : List (Int × Int)) (w : World) :
    Calls Try.prog 60 #[frV ⟨2, a, b, c, d, rs⟩ (.slice ra rn rc)] w fun e w' => e = .returned (bodyR ⟨2, a, b, c, d, rs⟩ (.slice ra rn rc)) ∧ Below w.heap.size w w' := by
  unfold frV
  go_enter Try.func60, Try.ntmps60
  go_wp2
  go_ret2
  exact ⟨rfl, (Below.refl _ _).alloc (Nat.le_refl _) _⟩
set_option maxRecDepth 100000 in
set_option maxHeartbeats 1000000 in
theorem bodyOf_3 (a b c : Int) (d : ByteArray) (ra : Option Addr) (rn rc : Nat) (rs : List (Int × Int)) (w : World) :
    Calls Try.prog 60 #[frV ⟨3, a, b, c, d, rs⟩ (.slice ra rn rc)] w fun e w' => e = .returned (bodyR ⟨3, a, b, c, d, rs⟩ (.slice ra rn rc)) ∧ Below w.heap.size w w' := by
  unfold frV
  go_enter Try.func60, Try.ntmps60
  go_wp2
  go_ret2
  exact ⟨rfl, (Below.refl _ _).alloc (Nat.le_refl _) _⟩
set_option maxRecDepth 100000 in
set_option maxHeartbeats 1000000 in
theorem bodyOf_4 (a b c : Int) (d : ByteArray) (ra : Option Addr) (rn rc : Nat) (rs : List (Int × Int)) (w : World) :
    Calls Try.prog 60 #[frV ⟨4, a, b, c, d, rs⟩ (.slice ra rn rc)] w fun e w' => e = .returned (bodyR ⟨4, a, b, c, d, rs⟩ (.slice ra rn rc)) ∧ Below w.heap.size w w' := by
  unfold frV
  go_enter Try.func60, Try.ntmps60
  go_wp2
  go_ret2
  exact ⟨rfl, (Below.refl _ _).alloc (Nat.le_refl _) _⟩
set_option maxRecDepth 100000 in
set_option maxHeartbeats 1000000 in
theorem bodyOf_5 (a b c : Int) (d : ByteArray) (ra : Option Addr) (rn rc : Nat) (rs : List (Int × Int)) (w : World) :
    Calls Try.prog 60 #[frV ⟨5, a, b, c, d, rs⟩ (.slice ra rn rc)] w fun e w' => e = .returned (bodyR ⟨5, a, b, c, d, rs⟩ (.slice ra rn rc)) ∧ Below w.heap.size w w' := by
  unfold frV
  go_enter Try.func60, Try.ntmps60
  go_wp2
  go_ret2
  exact ⟨rfl, (Below.refl _ _).alloc (Nat.le_refl _) _⟩
set_option maxRecDepth 100000 in
set_option maxHeartbeats 1000000 in
theorem bodyOf_6 (a b c : Int) (d : ByteArray) (ra : Option Addr) (rn rc : Nat) (rs : List (Int × Int)) (w : World) :
    Calls Try.prog 60 #[frV ⟨6, a, b, c, d, rs⟩ (.slice ra rn rc)] w fun e w' => e = .returned (bodyR ⟨6, a, b, c, d, rs⟩ (.slice ra rn rc)) ∧ Below w.heap.size w w' := by
  unfold frV
  go_enter Try.func60, Try.ntmps60
  go_wp2
  go_ret2
  exact ⟨rfl, (Below.refl _ _).alloc (Nat.le_refl _) _⟩
set_option maxRecDepth 100000 in
set_option maxHeartbeats 1000000 in
theorem bodyOf_7 (a b c : Int) (d : ByteArray) (ra : Option Addr) (rn rc : Nat) (rs : List (Int × Int)) (w : World) :
    Calls Try.prog 60 #[frV ⟨7, a, b, c, d, rs⟩ (.slice ra rn rc)] w fun e w' => e = .returned (bodyR ⟨7, a, b, c, d, rs⟩ (.slice ra rn rc)) ∧ Below w.heap.size w w' := by
  unfold frV
  go_enter Try.func60, Try.ntmps60
  go_wp2
  go_ret2
  exact ⟨rfl, (Below.refl _ _).alloc (Nat.le_refl _) _⟩
set_option maxRecDepth 100000 in
set_option maxHeartbeats 1000000 in
theorem bodyOf_8 (a b c : Int) (d : ByteArray) (ra : Option Addr) (rn rc : Nat) (rs : List (Int × Int)) (w : World) :
    Calls Try.prog 60 #[frV ⟨8, a, b, c, d, rs⟩ (.slice ra rn rc)] w fun e w' => e = .returned (bodyR ⟨8, a, b, c, d, rs⟩ (.slice ra rn rc)) ∧ Below w.heap.size w w' := by
  unfold frV
  go_enter Try.func60, Try.ntmps60
  go_wp2
  go_ret2
  exact ⟨rfl, (Below.refl _ _).alloc (Nat.le_refl _) _⟩
set_option maxRecDepth 100000 in
set_option maxHeartbeats 1000000 in
theorem bodyOf_9 (a b c : Int) (d : ByteArray) (ra : Option Addr) (rn rc : Nat) (rs : List (Int × Int)) (w : World) :
    Calls Try.prog 60 #[frV ⟨9, a, b, c, d, rs⟩ (.slice ra rn rc)] w fun e w' => e = .returned (bodyR ⟨9, a, b, c, d, rs⟩ (.slice ra rn rc)) ∧ Below w.heap.size w w' := by
  unfold frV
  go_enter Try.func60, Try.ntmps60
  go_wp2
  go_ret2
  exact ⟨rfl, (Below.refl _ _).alloc (Nat.le_refl _) _⟩
set_option maxRecDepth 100000 in
set_option maxHeartbeats 1000000 in
theorem bodyOf_10 (a b c : Int) (d : ByteArray) (ra : Option Addr) (rn rc : Nat) (rs : List (Int × Int)) (w : World) :
    Calls Try.prog 60 #[frV ⟨10, a, b, c, d, rs⟩ (.slice ra rn rc)] w fun e w' => e = .returned (bodyR ⟨10, a, b, c, d, rs⟩ (.slice ra rn rc)) ∧ Below w.heap.size w w' := by
  unfold frV
  go_enter Try.func60, Try.ntmps60
  go_wp2
  go_ret2
  exact ⟨rfl, (Below.refl _ _).alloc (Nat.le_refl _) _⟩
set_option maxRecDepth 100000 in
set_option maxHeartbeats 1000000 in
theorem bodyOf_no (k a b c : Int) (d : ByteArray) (ra : Option Addr) (rn rc : Nat) (rs : List (Int × Int)) (w : World) (HK : Hid (¬ (0 ≤ k ∧ k ≤ 10))) :
    Calls Try.prog 60 #[frV ⟨k, a, b, c, d, rs⟩ (.slice ra rn rc)] w fun e w' => e = .returned (bodyR ⟨k, a, b, c, d, rs⟩ (.slice ra rn rc)) ∧ Below w.heap.size w w' := by
  unfold frV
  have e0 := bne_of (a := k) (b := 0) (by have := HK.out; omega)
  have e1 := bne_of (a := k) (b := 1) (by have := HK.out; omega)
  have e2 := bne_of (a := k) (b := 2) (by have := HK.out; omega)
  have e3 := bne_of (a := k) (b := 3) (by have := HK.out; omega)
  have e4 := bne_of (a := k) (b := 4) (by have := HK.out; omega)
  have e5 := bne_of (a := k) (b := 5) (by have := HK.out; omega)
  have e6 := bne_of (a := k) (b := 6) (by have := HK.out; omega)
  have e7 := bne_of (a := k) (b := 7) (by have := HK.out; omega)
  have e8 := bne_of (a := k) (b := 8) (by have := HK.out; omega)
  have e9 := bne_of (a := k) (b := 9) (by have := HK.out; omega)
  have e10 := bne_of (a := k) (b := 10) (by have := HK.out; omega)
  go_enter Try.func60, Try.ntmps60
  go_wp2
  go_ret2
  exact ⟨by rw [bodyR_no HK.out]; rfl, (Below.refl _ _).alloc (Nat.le_refl _) _⟩
theorem bodyOf_any (f : Fr) (ra : Option Addr) (rn rc : Nat) (w : World) :
    Calls Try.prog 60 #[frV f (.slice ra rn rc)] w fun e w' => e = .returned (bodyR f (.slice ra rn rc)) ∧ Below w.heap.size w w' := by
  obtain ⟨k, a, b, c, d, rs⟩ := f
  by_cases h : 0 ≤ k ∧ k ≤ 10
  · have : k = 0 ∨ k = 1 ∨ k = 2 ∨ k = 3 ∨ k = 4 ∨ k = 5 ∨ k = 6 ∨ k = 7 ∨ k = 8 ∨ k = 9 ∨ k = 10 := by omega
    rcases this with rfl | rfl | rfl | rfl | rfl | rfl | rfl | rfl | rfl | rfl | rfl
    · exact bodyOf_0 a b c d ra rn rc rs w
    · exact bodyOf_1 a b c d ra rn rc rs w
    · exact bodyOf_2 a b c d ra rn rc rs w
    · exact bodyOf_3 a b c d ra rn rc rs w
    · exact bodyOf_4 a b c d ra rn rc rs w
    · exact bodyOf_5 a b c d ra rn rc rs w
    · exact bodyOf_6 a b c d ra rn rc rs w
    · exact bodyOf_7 a b c d ra rn rc rs w
    · exact bodyOf_8 a b c d ra rn rc rs w
    · exact bodyOf_9 a b c d ra rn rc rs w
    · exact bodyOf_10 a b c d ra rn rc rs w
  · exact bodyOf_no k a b c d ra rn rc rs w (Lib.hid h)

end Go.Proofs.Ythflokonihegbaa
