/- The program's bodies of frames, FrameValid, FrameEliciting. -/
import Derived.Test.YtifohfclgonhfaaSVal
import Derived.Handy
import Derived.Test.YtifohfclgonhfaaIA
import Derived.Test.YtifohfclgonhfaaFrEq
import Derived.Test.YtifohfclgonhfaaSEnc
import Derived.Deep.RegionHeld3
import Derived.Test.YtifohfclgonhfaaSFel
namespace Go.Proofs.Ytifohfclgonhfaa
open Go.RowKit
set_option linter.unusedVariables false
set_option linter.unusedSimpArgs false

def bodyX (k a b c : Int) (d : ByteArray) (v : Value) : Value :=
  if k = 0 then .agg #[] else if k = 1 then .agg #[] else if k = 2 then .agg #[.int .i64 a, v] else if k = 3 then .agg #[.int .i64 a, .int .i64 b, .int .i64 c, .string d] else if k = 4 then .agg #[.int .i64 a, .int .i64 b] else if k = 5 then .agg #[.int .i64 a] else if k = 6 then .agg #[.int .i64 a] else if k = 7 then .agg #[.int .i64 a, .int .i64 b] else if k = 8 then .agg #[.int .i64 a] else if k = 9 then .agg #[.string d] else if k = 10 then .agg #[.int .i64 a] else .agg #[]
def bodyT (k : Int) : TypeId :=
  if k = 0 then 78 else if k = 1 then 111 else if k = 2 then 80 else if k = 3 then 94 else if k = 4 then 97 else if k = 5 then 99 else if k = 6 then 100 else if k = 7 then 102 else if k = 8 then 104 else if k = 9 then 106 else if k = 10 then 82 else 0
def bodyV (f : Fr) (v : Value) : Value := .iface (bodyT f.k) (bodyX f.k f.a f.b f.c f.d v)
def bodyR (f : Fr) (v : Value) : Value := if 0 ≤ f.k ∧ f.k ≤ 10 then .tuple #[bodyV f v, .bool true] else .tuple #[.nilIface, .bool false]
theorem bodyR_yes {f : Fr} {v : Value} (h : 0 ≤ f.k ∧ f.k ≤ 10) : bodyR f v = .tuple #[bodyV f v, .bool true] := if_pos h
theorem bodyR_no {f : Fr} {v : Value} (h : ¬ (0 ≤ f.k ∧ f.k ≤ 10)) : bodyR f v = .tuple #[.nilIface, .bool false] := if_neg h

set_option maxRecDepth 100000 in
set_option maxHeartbeats 1000000 in
theorem bodyOf_0 (a b c : Int) (d : ByteArray) (ra : Option Addr) (rn rc : Nat) (rs : List (Int × Int)) (w : World) :
    Calls Try.prog 60 #[frV ⟨0, a, b, c, d, rs⟩ (.slice ra rn rc)] w fun e w' => e = .returned (bodyR ⟨0, a, b, c, d, rs⟩ (.slice ra rn rc)) ∧ Below w.heap.size w w' := by
  unfold frV
  go_enter Try.func60, Try.ntmps60
  go_wp2
  go_ret2
  exact ⟨rfl, (Below.refl _ _).alloc (Nat.le_refl _) _⟩
set_option maxRecDepth 100000 in
set_option maxHeartbeats 1000000 in
theorem bodyOf_1 (a b c : Int) (d : ByteArray) (ra : Option Addr) (rn rc : Nat) (rs : List (Int × Int)) (w : World) :
    Calls Try.prog 60 #[frV ⟨1, a, b, c, d, rs⟩ (.slice ra rn rc)] w fun e w' => e = .returned (bodyR ⟨1, a, b, c, d, rs⟩ (.slice ra rn rc)) ∧ Below w.heap.size w w' := by
  unfold frV
  go_enter Try.func60, Try.ntmps60
  go_wp2
  go_ret2
  exact ⟨rfl, (Below.refl _ _).alloc (Nat.le_refl _) _⟩
set_option maxRecDepth 100000 in
set_option maxHeartbeats 1000000 in
theorem bodyOf_2 (a b c : Int) (d : ByteArray) (ra : Option Addr) (rn rc : Nat) (rs : List (Int × Int)) (w : World) :
    Calls Try.prog 60 #[frV ⟨2, a, b, c, d, rs⟩ (.slice ra rn rc)] w fun e w' => e = .returned (bodyR ⟨2, a, b, c, d, rs⟩ (.slice ra rn rc)) ∧ Below w.heap.size w w' := by
  unfold frV
  go_enter Try.func60, Try.ntmps60
  go_wp2
  go_ret2
  exact ⟨rfl, (Below.refl _ _).alloc (Nat.le_refl _) _⟩
set_option maxRecDepth 100000 in
set_option maxHeartbeats 1000000 in
theorem bodyOf_3 (a b c : Int) (d : ByteArray) (ra : Option Addr) (rn rc : Nat) (rs : List (Int × Int)) (w : World) :
    Calls Try.prog 60 #[frV ⟨3, a, b, c, d, rs⟩ (.slice ra rn rc)] w fun e w' => e = .returned (bodyR ⟨3, a, b, c, d, rs⟩ (.slice ra rn rc)) ∧ Below w.heap.size w w' := by
  unfold frV
  go_enter Try.func60, Try.ntmps60
  go_wp2
  go_ret2
  exact ⟨rfl, (Below.refl _ _).alloc (Nat.le_refl _) _⟩
set_option maxRecDepth 100000 in
set_option maxHeartbeats 1000000 in
theorem bodyOf_4 (a b c : Int) (d : ByteArray) (ra : Option Addr) (rn rc : Nat) (rs : List (Int × Int)) (w : World) :
    Calls Try.prog 60 #[frV ⟨4, a, b, c, d, rs⟩ (.slice ra rn rc)] w fun e w' => e = .returned (bodyR ⟨4, a, b, c, d, rs⟩ (.slice ra rn rc)) ∧ Below w.heap.size w w' := by
  unfold frV
  go_enter Try.func60, Try.ntmps60
  go_wp2
  go_ret2
  exact ⟨rfl, (Below.refl _ _).alloc (Nat.le_refl _) _⟩
set_option maxRecDepth 100000 in
set_option maxHeartbeats 1000000 in
theorem bodyOf_5 (a b c : Int) (d : ByteArray) (ra : Option Addr) (rn rc : Nat) (rs : List (Int × Int)) (w : World) :
    Calls Try.prog 60 #[frV ⟨5, a, b, c, d, rs⟩ (.slice ra rn rc)] w fun e w' => e = .returned (bodyR ⟨5, a, b, c, d, rs⟩ (.slice ra rn rc)) ∧ Below w.heap.size w w' := by
  unfold frV
  go_enter Try.func60, Try.ntmps60
  go_wp2
  go_ret2
  exact ⟨rfl, (Below.refl _ _).alloc (Nat.le_refl _) _⟩
set_option maxRecDepth 100000 in
set_option maxHeartbeats 1000000 in
theorem bodyOf_6 (a b c : Int) (d : ByteArray) (ra : Option Addr) (rn rc : Nat) (rs : List (Int × Int)) (w : World) :
    Calls Try.prog 60 #[frV ⟨6, a, b, c, d, rs⟩ (.slice ra rn rc)] w fun e w' => e = .returned (bodyR ⟨6, a, b, c, d, rs⟩ (.slice ra rn rc)) ∧ Below w.heap.size w w' := by
  unfold frV
  go_enter Try.func60, Try.ntmps60
  go_wp2
  go_ret2
  exact ⟨rfl, (Below.refl _ _).alloc (Nat.le_refl _) _⟩
set_option maxRecDepth 100000 in
set_option maxHeartbeats 1000000 in
theorem bodyOf_7 (a b c : Int) (d : ByteArray) (ra : Option Addr) (rn rc : Nat) (rs : List (Int × Int)) (w : World) :
    Calls Try.prog 60 #[frV ⟨7, a, b, c, d, rs⟩ (.slice ra rn rc)] w fun e w' => e = .returned (bodyR ⟨7, a, b, c, d, rs⟩ (.slice ra rn rc)) ∧ Below w.heap.size w w' := by
  unfold frV
  go_enter Try.func60, Try.ntmps60
  go_wp2
  go_ret2
  exact ⟨rfl, (Below.refl _ _).alloc (Nat.le_refl _) _⟩
set_option maxRecDepth 100000 in
set_option maxHeartbeats 1000000 in
theorem bodyOf_8 (a b c : Int) (d : ByteArray) (ra : Option Addr) (rn rc : Nat) (rs : List (Int × Int)) (w : World) :
    Calls Try.prog 60 #[frV ⟨8, a, b, c, d, rs⟩ (.slice ra rn rc)] w fun e w' => e = .returned (bodyR ⟨8, a, b, c, d, rs⟩ (.slice ra rn rc)) ∧ Below w.heap.size w w' := by
  unfold frV
  go_enter Try.func60, Try.ntmps60
  go_wp2
  go_ret2
  exact ⟨rfl, (Below.refl _ _).alloc (Nat.le_refl _) _⟩
set_option maxRecDepth 100000 in
set_option maxHeartbeats 1000000 in
theorem bodyOf_9 (a b c : Int) (d : ByteArray) (ra : Option Addr) (rn rc : Nat) (rs : List (Int × Int)) (w : World) :
    Calls Try.prog 60 #[frV ⟨9, a, b, c, d, rs⟩ (.slice ra rn rc)] w fun e w' => e = .returned (bodyR ⟨9, a, b, c, d, rs⟩ (.slice ra rn rc)) ∧ Below w.heap.size w w' := by
  unfold frV
  go_enter Try.func60, Try.ntmps60
  go_wp2
  go_ret2
  exact ⟨rfl, (Below.refl _ _).alloc (Nat.le_refl _) _⟩
set_option maxRecDepth 100000 in
set_option maxHeartbeats 1000000 in
theorem bodyOf_10 (a b c : Int) (d : ByteArray) (ra : Option Addr) (rn rc : Nat) (rs : List (Int × Int)) (w : World) :
    Calls Try.prog 60 #[frV ⟨10, a, b, c, d, rs⟩ (.slice ra rn rc)] w fun e w' => e = .returned (bodyR ⟨10, a, b, c, d, rs⟩ (.slice ra rn rc)) ∧ Below w.heap.size w w' := by
  unfold frV
  go_enter Try.func60, Try.ntmps60
  go_wp2
  go_ret2
  exact ⟨rfl, (Below.refl _ _).alloc (Nat.le_refl _) _⟩
set_option maxRecDepth 100000 in
set_option maxHeartbeats 1000000 in
theorem bodyOf_no (k a b c : Int) (d : ByteArray) (ra : Option Addr) (rn rc : Nat) (rs : List (Int × Int)) (w : World) (HK : Hid (¬ (0 ≤ k ∧ k ≤ 10))) :
    Calls Try.prog 60 #[frV ⟨k, a, b, c, d, rs⟩ (.slice ra rn rc)] w fun e w' => e = .returned (bodyR ⟨k, a, b, c, d, rs⟩ (.slice ra rn rc)) ∧ Below w.heap.size w w' := by
  unfold frV
  have e0 := bne_of (a := k) (b := 0) (by have := HK.out; omega)
  have e1 := bne_of (a := k) (b := 1) (by have := HK.out; omega)
  have e2 := bne_of (a := k) (b := 2) (by have := HK.out; omega)
  have e3 := bne_of (a := k) (b := 3) (by have := HK.out; omega)
  have e4 := bne_of (a := k) (b := 4) (by have := HK.out; omega)
  have e5 := bne_of (a := k) (b := 5) (by have := HK.out; omega)
  have e6 := bne_of (a := k) (b := 6) (by have := HK.out; omega)
  have e7 := bne_of (a := k) (b := 7) (by have := HK.out; omega)
  have e8 := bne_of (a := k) (b := 8) (by have := HK.out; omega)
  have e9 := bne_of (a := k) (b := 9) (by have := HK.out; omega)
  have e10 := bne_of (a := k) (b := 10) (by have := HK.out; omega)
  go_enter Try.func60, Try.ntmps60
  go_wp2
  go_ret2
  exact ⟨by rw [bodyR_no HK.out]; rfl, (Below.refl _ _).alloc (Nat.le_refl _) _⟩
theorem bodyOf_any (f : Fr) (ra : Option Addr) (rn rc : Nat) (w : World) :
    Calls Try.prog 60 #[frV f (.slice ra rn rc)] w fun e w' => e = .returned (bodyR f (.slice ra rn rc)) ∧ Below w.heap.size w w' := by
  obtain ⟨k, a, b, c, d, rs⟩ := f
  by_cases h : 0 ≤ k ∧ k ≤ 10
  · have : k = 0 ∨ k = 1 ∨ k = 2 ∨ k = 3 ∨ k = 4 ∨ k = 5 ∨ k = 6 ∨ k = 7 ∨ k = 8 ∨ k = 9 ∨ k = 10 := by omega
    rcases this with rfl | rfl | rfl | rfl | rfl | rfl | rfl | rfl | rfl | rfl | rfl
    · exact bodyOf_0 a b c d ra rn rc rs w
    · exact bodyOf_1 a b c d ra rn rc rs w
    · exact bodyOf_2 a b c d ra rn rc rs w
    · exact bodyOf_3 a b c d ra rn rc rs w
    · exact bodyOf_4 a b c d ra rn rc rs w
    · exact bodyOf_5 a b c d ra rn rc rs w
    · exact bodyOf_6 a b c d ra rn rc rs w
    · exact bodyOf_7 a b c d ra rn rc rs w
    · exact bodyOf_8 a b c d ra rn rc rs w
    · exact bodyOf_9 a b c d ra rn rc rs w
    · exact bodyOf_10 a b c d ra rn rc rs w
  · exact bodyOf_no k a b c d ra rn rc rs w (Lib.hid h)

set_option maxRecDepth 100000 in
set_option maxHeartbeats 1000000 in
theorem upTo_any (n l : Int) (w : World) : Calls Try.prog 114 #[.int .i64 n, .int .i64 l] w fun e w' => e = .returned (.bool (decide (0 ≤ n ∧ n ≤ l))) ∧ w = w' := by
  by_cases h0 : 0 ≤ n
  · by_cases h1 : n ≤ l
    · have d0 := decide_eq_true h0
      have d1 := decide_eq_true h1
      go_enter Try.func114, Try.ntmps114
      go_wp2
      go_ret
      exact ⟨ret_bool (decide_eq_true ⟨h0, h1⟩).symm, rfl⟩
    · have d0 := decide_eq_true h0
      have d1 := decide_eq_false h1
      go_enter Try.func114, Try.ntmps114
      go_wp2
      go_ret
      exact ⟨rfl, rfl⟩
  · have d0 := decide_eq_false h0
    go_enter Try.func114, Try.ntmps114
    go_wp2
    go_ret
    exact ⟨rfl, rfl⟩

def fnorm (f : Fr) : Fr := ⟨f.k, if f.k = 0 ∨ f.k = 1 ∨ f.k = 9 then 0 else f.a, if f.k = 3 ∨ f.k = 4 ∨ f.k = 7 then f.b else 0, if f.k = 3 then f.c else 0, if f.k = 3 ∨ f.k = 9 then f.d else ⟨#[]⟩, if f.k = 2 then f.rs else []⟩
def vnorm (k : Int) (v : Value) : Value := if k = 2 then v else .slice none 0 0
def finr (f : Fr) : Bool :=
  if f.k = 2 then decide (0 ≤ f.a ∧ f.a ≤ 3) && (decide (0 < f.rs.length) && rvalid f.rs)
  else if f.k = 3 then decide (0 ≤ f.a ∧ f.a ≤ 2) && (decide (0 ≤ f.c ∧ f.c ≤ 1) && (decide (f.d.size ≤ 12) && decide (0 ≤ f.b ∧ f.b ≤ 30 - (f.d.size : Int))))
  else if f.k = 4 then decide (0 ≤ f.a ∧ f.a ≤ 2) && decide (0 ≤ f.b ∧ f.b ≤ 30)
  else if f.k = 5 ∨ f.k = 6 then decide (0 ≤ f.a ∧ f.a ≤ 9999)
  else if f.k = 7 then decide (0 ≤ f.a ∧ f.a ≤ 15) && decide (0 ≤ f.b ∧ f.b ≤ 9999)
  else if f.k = 8 then decide (0 ≤ f.a ∧ f.a ≤ 15)
  else if f.k = 9 then decide (f.d.size ≤ 12)
  else if f.k = 10 then decide (0 ≤ f.a ∧ f.a ≤ 99)
  else true
theorem results_cell_1 {fn : Func} {p : Tmp} {ty : TypeId} (h : fn.results = #[.cell p ty]) (tmps : Array Value) (P : Program) (w : World) :
    (results fn tmps).run P w = ((asAddr (tmps.getD p undef)).run P w).andThen fun a w₁ => (loadVar ty a).run P w₁ := by
  simp only [results, h]
  simp [Sem.run_bind, Result.andThen]
def RetPost (w : World) (v : Value) (e : Ending) (w' : World) : Prop := e = .returned v ∧ Below w.heap.size w w'

set_option maxRecDepth 100000 in
set_option maxHeartbeats 1000000 in
theorem frame_0 (w : World) : Calls Try.prog 110 #[.agg #[]] w (RetPost w (frV ⟨0, 0, 0, 0, ⟨#[]⟩, []⟩ (.slice none 0 0))) := by
  go_enter Try.func110, Try.ntmps110
  go_wp2
  refine bodyPost_ret (v := frV ⟨0, 0, 0, 0, ⟨#[]⟩, []⟩ (.slice none 0 0)) ?hr rfl ⟨rfl, ?hb⟩
  case hr => rw [results_cell_1 rfl]; unfold frV; go_simp
  case hb => go_grown
set_option maxRecDepth 100000 in
set_option maxHeartbeats 1000000 in
theorem frame_1 (w : World) : Calls Try.prog 131 #[.agg #[]] w (RetPost w (frV ⟨1, 0, 0, 0, ⟨#[]⟩, []⟩ (.slice none 0 0))) := by
  go_enter Try.func131, Try.ntmps131
  go_wp2
  refine bodyPost_ret (v := frV ⟨1, 0, 0, 0, ⟨#[]⟩, []⟩ (.slice none 0 0)) ?hr rfl ⟨rfl, ?hb⟩
  case hr => rw [results_cell_1 rfl]; unfold frV; go_simp
  case hb => go_grown
set_option maxRecDepth 100000 in
set_option maxHeartbeats 1000000 in
theorem frame_2 (a : Int) (ra : Option Addr) (rn rc : Nat) (w : World) : Calls Try.prog 112 #[.agg #[.int .i64 a, .slice ra rn rc]] w (RetPost w (frV ⟨2, a, 0, 0, ⟨#[]⟩, []⟩ (.slice ra rn rc))) := by
  go_enter Try.func112, Try.ntmps112
  go_wp2
  refine bodyPost_ret (v := frV ⟨2, a, 0, 0, ⟨#[]⟩, []⟩ (.slice ra rn rc)) ?hr rfl ⟨rfl, ?hb⟩
  case hr => rw [results_cell_1 rfl]; unfold frV; go_simp
  case hb => go_grown
set_option maxRecDepth 100000 in
set_option maxHeartbeats 1000000 in
theorem frame_3 (a b c : Int) (d : ByteArray) (w : World) : Calls Try.prog 117 #[.agg #[.int .i64 a, .int .i64 b, .int .i64 c, .string d]] w (RetPost w (frV ⟨3, a, b, c, d, []⟩ (.slice none 0 0))) := by
  go_enter Try.func117, Try.ntmps117
  go_wp2
  refine bodyPost_ret (v := frV ⟨3, a, b, c, d, []⟩ (.slice none 0 0)) ?hr rfl ⟨rfl, ?hb⟩
  case hr => rw [results_cell_1 rfl]; unfold frV; go_simp
  case hb => go_grown
set_option maxRecDepth 100000 in
set_option maxHeartbeats 1000000 in
theorem frame_4 (a b : Int) (w : World) : Calls Try.prog 119 #[.agg #[.int .i64 a, .int .i64 b]] w (RetPost w (frV ⟨4, a, b, 0, ⟨#[]⟩, []⟩ (.slice none 0 0))) := by
  go_enter Try.func119, Try.ntmps119
  go_wp2
  refine bodyPost_ret (v := frV ⟨4, a, b, 0, ⟨#[]⟩, []⟩ (.slice none 0 0)) ?hr rfl ⟨rfl, ?hb⟩
  case hr => rw [results_cell_1 rfl]; unfold frV; go_simp
  case hb => go_grown
set_option maxRecDepth 100000 in
set_option maxHeartbeats 1000000 in
theorem frame_5 (a : Int) (w : World) : Calls Try.prog 121 #[.agg #[.int .i64 a]] w (RetPost w (frV ⟨5, a, 0, 0, ⟨#[]⟩, []⟩ (.slice none 0 0))) := by
  go_enter Try.func121, Try.ntmps121
  go_wp2
  refine bodyPost_ret (v := frV ⟨5, a, 0, 0, ⟨#[]⟩, []⟩ (.slice none 0 0)) ?hr rfl ⟨rfl, ?hb⟩
  case hr => rw [results_cell_1 rfl]; unfold frV; go_simp
  case hb => go_grown
set_option maxRecDepth 100000 in
set_option maxHeartbeats 1000000 in
theorem frame_6 (a : Int) (w : World) : Calls Try.prog 123 #[.agg #[.int .i64 a]] w (RetPost w (frV ⟨6, a, 0, 0, ⟨#[]⟩, []⟩ (.slice none 0 0))) := by
  go_enter Try.func123, Try.ntmps123
  go_wp2
  refine bodyPost_ret (v := frV ⟨6, a, 0, 0, ⟨#[]⟩, []⟩ (.slice none 0 0)) ?hr rfl ⟨rfl, ?hb⟩
  case hr => rw [results_cell_1 rfl]; unfold frV; go_simp
  case hb => go_grown
set_option maxRecDepth 100000 in
set_option maxHeartbeats 1000000 in
theorem frame_7 (a b : Int) (w : World) : Calls Try.prog 125 #[.agg #[.int .i64 a, .int .i64 b]] w (RetPost w (frV ⟨7, a, b, 0, ⟨#[]⟩, []⟩ (.slice none 0 0))) := by
  go_enter Try.func125, Try.ntmps125
  go_wp2
  refine bodyPost_ret (v := frV ⟨7, a, b, 0, ⟨#[]⟩, []⟩ (.slice none 0 0)) ?hr rfl ⟨rfl, ?hb⟩
  case hr => rw [results_cell_1 rfl]; unfold frV; go_simp
  case hb => go_grown
set_option maxRecDepth 100000 in
set_option maxHeartbeats 1000000 in
theorem frame_8 (a : Int) (w : World) : Calls Try.prog 127 #[.agg #[.int .i64 a]] w (RetPost w (frV ⟨8, a, 0, 0, ⟨#[]⟩, []⟩ (.slice none 0 0))) := by
  go_enter Try.func127, Try.ntmps127
  go_wp2
  refine bodyPost_ret (v := frV ⟨8, a, 0, 0, ⟨#[]⟩, []⟩ (.slice none 0 0)) ?hr rfl ⟨rfl, ?hb⟩
  case hr => rw [results_cell_1 rfl]; unfold frV; go_simp
  case hb => go_grown
set_option maxRecDepth 100000 in
set_option maxHeartbeats 1000000 in
theorem frame_9 (d : ByteArray) (w : World) : Calls Try.prog 129 #[.agg #[.string d]] w (RetPost w (frV ⟨9, 0, 0, 0, d, []⟩ (.slice none 0 0))) := by
  go_enter Try.func129, Try.ntmps129
  go_wp2
  refine bodyPost_ret (v := frV ⟨9, 0, 0, 0, d, []⟩ (.slice none 0 0)) ?hr rfl ⟨rfl, ?hb⟩
  case hr => rw [results_cell_1 rfl]; unfold frV; go_simp
  case hb => go_grown
set_option maxRecDepth 100000 in
set_option maxHeartbeats 1000000 in
theorem frame_10 (a : Int) (w : World) : Calls Try.prog 115 #[.agg #[.int .i64 a]] w (RetPost w (frV ⟨10, a, 0, 0, ⟨#[]⟩, []⟩ (.slice none 0 0))) := by
  go_enter Try.func115, Try.ntmps115
  go_wp2
  refine bodyPost_ret (v := frV ⟨10, a, 0, 0, ⟨#[]⟩, []⟩ (.slice none 0 0)) ?hr rfl ⟨rfl, ?hb⟩
  case hr => rw [results_cell_1 rfl]; unfold frV; go_simp
  case hb => go_grown
set_option maxRecDepth 100000 in
set_option maxHeartbeats 1000000 in
theorem inr_0 (w : World) : Calls Try.prog 111 #[.agg #[]] w (BoolPost w (true)) := by
  go_enter Try.func111, Try.ntmps111
  go_wp2
  go_ret
  exact BoolPost.of rfl ((Below.refl _ _).alloc (Nat.le_refl _) _)
set_option maxRecDepth 100000 in
set_option maxHeartbeats 1000000 in
theorem inr_1 (w : World) : Calls Try.prog 132 #[.agg #[]] w (BoolPost w (true)) := by
  go_enter Try.func132, Try.ntmps132
  go_wp2
  go_ret
  exact BoolPost.of rfl ((Below.refl _ _).alloc (Nat.le_refl _) _)
set_option maxRecDepth 100000 in
set_option maxHeartbeats 1000000 in
theorem inr_5 (a : Int) (w : World) : Calls Try.prog 122 #[.agg #[.int .i64 a]] w (BoolPost w (decide (0 ≤ a ∧ a ≤ 9999))) := by
  go_enter Try.func122, Try.ntmps122
  go_wp2_with (go_at_call 114; refine (upTo_any _ _ _).mono ?_; rintro e w' ⟨rfl, rfl⟩)
  go_ret
  exact BoolPost.of (Bool.decide_and _ _).symm ((Below.refl _ _).alloc (Nat.le_refl _) _)
set_option maxRecDepth 100000 in
set_option maxHeartbeats 1000000 in
theorem inr_6 (a : Int) (w : World) : Calls Try.prog 124 #[.agg #[.int .i64 a]] w (BoolPost w (decide (0 ≤ a ∧ a ≤ 9999))) := by
  go_enter Try.func124, Try.ntmps124
  go_wp2_with (go_at_call 114; refine (upTo_any _ _ _).mono ?_; rintro e w' ⟨rfl, rfl⟩)
  go_ret
  exact BoolPost.of (Bool.decide_and _ _).symm ((Below.refl _ _).alloc (Nat.le_refl _) _)
set_option maxRecDepth 100000 in
set_option maxHeartbeats 1000000 in
theorem inr_8 (a : Int) (w : World) : Calls Try.prog 128 #[.agg #[.int .i64 a]] w (BoolPost w (decide (0 ≤ a ∧ a ≤ 15))) := by
  go_enter Try.func128, Try.ntmps128
  go_wp2_with (go_at_call 114; refine (upTo_any _ _ _).mono ?_; rintro e w' ⟨rfl, rfl⟩)
  go_ret
  exact BoolPost.of (Bool.decide_and _ _).symm ((Below.refl _ _).alloc (Nat.le_refl _) _)
set_option maxRecDepth 100000 in
set_option maxHeartbeats 1000000 in
theorem inr_10 (a : Int) (w : World) : Calls Try.prog 116 #[.agg #[.int .i64 a]] w (BoolPost w (decide (0 ≤ a ∧ a ≤ 99))) := by
  go_enter Try.func116, Try.ntmps116
  go_wp2_with (go_at_call 114; refine (upTo_any _ _ _).mono ?_; rintro e w' ⟨rfl, rfl⟩)
  go_ret
  exact BoolPost.of (Bool.decide_and _ _).symm ((Below.refl _ _).alloc (Nat.le_refl _) _)
set_option maxRecDepth 100000 in
set_option maxHeartbeats 1000000 in
theorem inr_4 (a b : Int) (w : World) : Calls Try.prog 120 #[.agg #[.int .i64 a, .int .i64 b]] w (BoolPost w (decide (0 ≤ a ∧ a ≤ 2) && decide (0 ≤ b ∧ b ≤ 30))) := by
  obtain ⟨q1, hq1⟩ : ∃ q, decide (0 ≤ a ∧ a ≤ 2) = q := ⟨_, rfl⟩
  obtain ⟨q2, hq2⟩ : ∃ q, decide (0 ≤ b ∧ b ≤ 30) = q := ⟨_, rfl⟩
  rw [hq1, hq2]
  have HX1 := Lib.hid hq1
  have HX2 := Lib.hid hq2
  clear hq1 hq2
  cases q1
  · go_enter Try.func120, Try.ntmps120
    go_wp2_with (first | (go_at_call 114; refine (upTo_any _ _ _).mono ?_; rw [HX1.out]; rintro e w' ⟨rfl, rfl⟩) | (go_at_call 114; refine (upTo_any _ _ _).mono ?_; rw [HX2.out]; rintro e w' ⟨rfl, rfl⟩))
    go_ret
    exact BoolPost.of rfl ((Below.refl _ _).alloc (Nat.le_refl _) _)
  · go_enter Try.func120, Try.ntmps120
    go_wp2_with (first | (go_at_call 114; refine (upTo_any _ _ _).mono ?_; rw [HX1.out]; rintro e w' ⟨rfl, rfl⟩) | (go_at_call 114; refine (upTo_any _ _ _).mono ?_; rw [HX2.out]; rintro e w' ⟨rfl, rfl⟩))
    go_ret
    exact BoolPost.of rfl ((Below.refl _ _).alloc (Nat.le_refl _) _)
set_option maxRecDepth 100000 in
set_option maxHeartbeats 1000000 in
theorem inr_7 (a b : Int) (w : World) : Calls Try.prog 126 #[.agg #[.int .i64 a, .int .i64 b]] w (BoolPost w (decide (0 ≤ a ∧ a ≤ 15) && decide (0 ≤ b ∧ b ≤ 9999))) := by
  obtain ⟨q1, hq1⟩ : ∃ q, decide (0 ≤ a ∧ a ≤ 15) = q := ⟨_, rfl⟩
  obtain ⟨q2, hq2⟩ : ∃ q, decide (0 ≤ b ∧ b ≤ 9999) = q := ⟨_, rfl⟩
  rw [hq1, hq2]
  have HX1 := Lib.hid hq1
  have HX2 := Lib.hid hq2
  clear hq1 hq2
  cases q1
  · go_enter Try.func126, Try.ntmps126
    go_wp2_with (first | (go_at_call 114; refine (upTo_any _ _ _).mono ?_; rw [HX1.out]; rintro e w' ⟨rfl, rfl⟩) | (go_at_call 114; refine (upTo_any _ _ _).mono ?_; rw [HX2.out]; rintro e w' ⟨rfl, rfl⟩))
    go_ret
    exact BoolPost.of rfl ((Below.refl _ _).alloc (Nat.le_refl _) _)
  · go_enter Try.func126, Try.ntmps126
    go_wp2_with (first | (go_at_call 114; refine (upTo_any _ _ _).mono ?_; rw [HX1.out]; rintro e w' ⟨rfl, rfl⟩) | (go_at_call 114; refine (upTo_any _ _ _).mono ?_; rw [HX2.out]; rintro e w' ⟨rfl, rfl⟩))
    go_ret
    exact BoolPost.of rfl ((Below.refl _ _).alloc (Nat.le_refl _) _)
set_option maxRecDepth 100000 in
set_option maxHeartbeats 1000000 in
theorem inr_9 (d : ByteArray) (w : World) : Calls Try.prog 130 #[.agg #[.string d]] w (BoolPost w (decide (d.size ≤ 12))) := by
  by_cases h : d.size ≤ 12
  · have h' : (d.size : Int) ≤ 12 := by omega
    have H := Lib.hid (decide_eq_true h)
    clear h
    go_enter Try.func130, Try.ntmps130
    go_wp2
    go_ret
    exact BoolPost.of H.out.symm ((Below.refl _ _).alloc (Nat.le_refl _) _)
  · have h' : ¬ (d.size : Int) ≤ 12 := by omega
    have H := Lib.hid (decide_eq_false h)
    clear h
    go_enter Try.func130, Try.ntmps130
    go_wp2
    go_ret
    exact BoolPost.of H.out.symm ((Below.refl _ _).alloc (Nat.le_refl _) _)
set_option maxRecDepth 100000 in
set_option maxHeartbeats 1000000 in
theorem inr_3 (a b c : Int) (d : ByteArray) (w : World) : Calls Try.prog 118 #[.agg #[.int .i64 a, .int .i64 b, .int .i64 c, .string d]] w (BoolPost w (decide (0 ≤ a ∧ a ≤ 2) && (decide (0 ≤ c ∧ c ≤ 1) && (decide (d.size ≤ 12) && decide (0 ≤ b ∧ b ≤ 30 - (d.size : Int)))))) := by
  obtain ⟨q1, hq1⟩ : ∃ q, decide (0 ≤ a ∧ a ≤ 2) = q := ⟨_, rfl⟩
  obtain ⟨q2, hq2⟩ : ∃ q, decide (0 ≤ c ∧ c ≤ 1) = q := ⟨_, rfl⟩
  rw [hq1, hq2]
  have HX1 := Lib.hid hq1
  have HX2 := Lib.hid hq2
  clear hq1 hq2
  cases q1
  · go_enter Try.func118, Try.ntmps118
    go_wp2_with (first | (go_at_call 114; refine (upTo_any _ _ _).mono ?_; rw [HX1.out]; rintro e w' ⟨rfl, rfl⟩) | (go_at_call 114; refine (upTo_any _ _ _).mono ?_; rw [HX2.out]; rintro e w' ⟨rfl, rfl⟩))
    go_ret
    exact BoolPost.of rfl ((Below.refl _ _).alloc (Nat.le_refl _) _)
  cases q2
  · go_enter Try.func118, Try.ntmps118
    go_wp2_with (first | (go_at_call 114; refine (upTo_any _ _ _).mono ?_; rw [HX1.out]; rintro e w' ⟨rfl, rfl⟩) | (go_at_call 114; refine (upTo_any _ _ _).mono ?_; rw [HX2.out]; rintro e w' ⟨rfl, rfl⟩))
    go_ret
    exact BoolPost.of rfl ((Below.refl _ _).alloc (Nat.le_refl _) _)
  by_cases h : d.size ≤ 12
  · have h' : (d.size : Int) ≤ 12 := by omega
    have H := Lib.hid (decide_eq_true h)
    have w1 : IntKind.i64.wrap (30 - (d.size : Int)) = 30 - (d.size : Int) := IntWalk.i64_in _ (by omega)
    obtain ⟨q3, hq3⟩ : ∃ q, decide (0 ≤ b ∧ b ≤ 30 - (d.size : Int)) = q := ⟨_, rfl⟩
    rw [hq3]
    have HX3 := Lib.hid hq3
    clear h hq3
    go_enter Try.func118, Try.ntmps118
    go_wp2_with (first | (go_at_call 114; refine (upTo_any _ _ _).mono ?_; rw [HX1.out]; rintro e w' ⟨rfl, rfl⟩) | (go_at_call 114; refine (upTo_any _ _ _).mono ?_; rw [HX2.out]; rintro e w' ⟨rfl, rfl⟩) | (go_at_call 114; refine (upTo_any _ _ _).mono ?_; rw [HX3.out]; rintro e w' ⟨rfl, rfl⟩))
    go_ret
    exact BoolPost.of (by rw [H.out]; cases q3 <;> rfl) ((Below.refl _ _).alloc (Nat.le_refl _) _)
  · have h' : ¬ (d.size : Int) ≤ 12 := by omega
    have H := Lib.hid (decide_eq_false h)
    clear h
    go_enter Try.func118, Try.ntmps118
    go_wp2_with (first | (go_at_call 114; refine (upTo_any _ _ _).mono ?_; rw [HX1.out]; rintro e w' ⟨rfl, rfl⟩) | (go_at_call 114; refine (upTo_any _ _ _).mono ?_; rw [HX2.out]; rintro e w' ⟨rfl, rfl⟩))
    go_ret
    exact BoolPost.of (by rw [H.out]; rfl) ((Below.refl _ _).alloc (Nat.le_refl _) _)
set_option maxRecDepth 100000 in
set_option maxHeartbeats 1000000 in
theorem inr_2 (a : Int) (ra : Option Addr) (rc : Nat) (rs : List (Int × Int)) (w : World) (HR : Hid (Rngs w (.slice ra rs.length rc) rs)) (hl : rs.length ≤ 1048576) : Calls Try.prog 113 #[.agg #[.int .i64 a, .slice ra rs.length rc]] w (BoolPost w (decide (0 ≤ a ∧ a ≤ 3) && (decide (0 < rs.length) && rvalid rs))) := by
  obtain ⟨q1, hq1⟩ : ∃ q, decide (0 ≤ a ∧ a ≤ 3) = q := ⟨_, rfl⟩
  rw [hq1]
  have HX1 := Lib.hid hq1
  clear hq1
  cases q1
  · go_enter Try.func113, Try.ntmps113
    go_wp2_with (go_at_call 114; refine (upTo_any _ _ _).mono ?_; rw [HX1.out]; rintro e w' ⟨rfl, rfl⟩)
    go_ret
    exact BoolPost.of rfl ((Below.refl _ _).alloc (Nat.le_refl _) _)
  by_cases h : 0 < rs.length
  · have h' : (0 : Int) < (rs.length : Int) := by omega
    have H := Lib.hid (decide_eq_true h)
    clear h
    go_enter Try.func113, Try.ntmps113
    go_wp2_with (first | (go_at_call 114; refine (upTo_any _ _ _).mono ?_; rw [HX1.out]; rintro e w' ⟨rfl, rfl⟩) | (go_at_call 36; refine (ivalid_any _ rs _ (HR.out.below ((Below.refl _ _).alloc (Nat.le_refl _) _)) hl).mono ?_; rintro e w' ⟨rfl, hb⟩))
    go_ret
    exact BoolPost.of (by rw [H.out]; rfl) (((Below.refl _ _).alloc (Nat.le_refl _) _).trans (hb.mono (by simp)))
  · have h' : ¬ (0 : Int) < (rs.length : Int) := by omega
    have H := Lib.hid (decide_eq_false h)
    clear h
    go_enter Try.func113, Try.ntmps113
    go_wp2_with (go_at_call 114; refine (upTo_any _ _ _).mono ?_; rw [HX1.out]; rintro e w' ⟨rfl, rfl⟩)
    go_ret
    exact BoolPost.of (by rw [H.out]; rfl) ((Below.refl _ _).alloc (Nat.le_refl _) _)

set_option maxRecDepth 100000 in
set_option maxHeartbeats 1000000 in
theorem eqrg_any (va vb : Value) (xs ys : List (Int × Int)) (w : World) (ha : Rngs w va xs) (hb : Rngs w vb ys) (hx : xs.length ≤ 1048576) (hy : ys.length ≤ 1048576) :
    Calls Try.prog 80 #[va, vb] w fun e w' => e = .returned (.bool (xs == ys)) ∧ Below w.heap.size w w' := by
  obtain ⟨a, c, rfl, ha⟩ := ha
  obtain ⟨a2, c2, rfl, hb⟩ := hb
  by_cases hl : xs.length = ys.length
  · by_cases h0 : xs = []
    · subst h0
      have hy0 : ys = [] := by cases ys with | nil => rfl | cons y l => simp at hl
      subst hy0
      clear ha hb hl
      go_enter Try.func80, Try.ntmps80
      go_wp2_with fail
      go_rounds 1
      go_ret
      exact ⟨rfl, Below.refl _ _⟩
    · have h0' : ys ≠ [] := by rintro rfl; simp at hl; exact h0 (by simpa using hl)
      obtain ⟨g, o, rfl, hc⟩ := ha h0
      obtain ⟨g2, o2, rfl, hc2⟩ := hb h0'
      have HL := Lib.hid hl
      have hnn : ((xs.length : Int) != (ys.length : Int)) = false := by rw [bne_eq_false_iff_eq]; omega
      clear ha hb h0 h0'
      have HC := Lib.hid hc
      have HC2 := Lib.hid hc2
      have hlA : xs.length ≤ ys.length := by omega
      have hlB : ys.length ≤ xs.length := by omega
      clear hl hc hc2
      go_enter Try.func80, Try.ntmps80
      go_wp2_with fail
      go_loopw [5, 13] (fun j i wr => ∃ k : Nat, k ≤ xs.length ∧ i = .int .i64 k ∧ Hid (xs.take k = ys.take k) ∧ Below w.heap.size w wr) (fun _ i _ => xs.length - (intOf i).toNat)
      case atStart => exact ⟨0, Nat.zero_le _, rfl, rfl, Below.refl _ _⟩
      case round =>
        obtain ⟨k, hk, rfl, HT, hbel⟩ := hrel
        have HB := Lib.hid hbel
        clear hbel
        by_cases hlt : k < xs.length
        · obtain ⟨e1, e2⟩ := (HC.out k hlt)
          have e1 := (HB.out.cell (World.block_lt_of_cell? w _ e1)).trans e1
          have e2 := (HB.out.cell (World.block_lt_of_cell? w _ e2)).trans e2
          obtain ⟨f1, f2⟩ := (HC2.out k (by omega))
          have f1 := (HB.out.cell (World.block_lt_of_cell? w _ f1)).trans f1
          have f2 := (HB.out.cell (World.block_lt_of_cell? w _ f2)).trans f2
          have b1 : (k : Int) < (xs.length : Int) := by omega
          have b2 : (k : Int) < (ys.length : Int) := by omega
          have HS := Lib.hid (take_step_rg xs ys k hlt HL.out HT.out)
          generalize (xs.getD k (0, 0)).1 = z1 at e1 HS
          generalize (xs.getD k (0, 0)).2 = z2 at e2 HS
          generalize (ys.getD k (0, 0)).1 = u1 at f1 HS
          generalize (ys.getD k (0, 0)).2 = u2 at f2 HS
          by_cases hz : z1 = u1
          · by_cases hz2 : z2 = u2
            · have hzb : (z1 == u1) = true := by rw [beq_iff_eq]; exact hz
              have hzb2 : (z2 == u2) = true := by rw [beq_iff_eq]; exact hz2
              have HZ := Lib.hid (HS.out.1 ⟨hz, hz2⟩)
              clear hz hz2
              go_wp2_with fail
              go_quiet (fail)
              go_wp2_with fail
              go_roundw
              case rel => exact ⟨k + 1, by omega, by go_num, HZ.out, below_drewN' HB.out _⟩
              case measure => simp [intOf]; omega
            · have hzb : (z1 == u1) = true := by rw [beq_iff_eq]; exact hz
              have hzb2 : (z2 == u2) = false := by rw [beq_eq_false_iff_ne]; exact hz2
              have HZ := Lib.hid (HS.out.2 fun h => hz2 h.2)
              clear hz hz2
              go_wp2_with fail
              go_quiet (fail)
              go_wp2_with fail
              go_ret
              exact ⟨ret_bool (by rw [HZ.out]), below_drewN' HB.out _⟩
          · have hzb : (z1 == u1) = false := by rw [beq_eq_false_iff_ne]; exact hz
            have HZ := Lib.hid (HS.out.2 fun h => hz h.1)
            clear hz
            go_wp2_with fail
            go_quiet (fail)
            go_wp2_with fail
            go_ret
            exact ⟨ret_bool (by rw [HZ.out]), below_drewN' HB.out _⟩
        · have hend : xs == ys := by
            have := HT.out
            rw [List.take_of_length_le (by omega), List.take_of_length_le (by omega)] at this
            simpa using this
          have HE := Lib.hid hend
          clear hend
          go_wp2
          go_ret
          exact ⟨ret_bool HE.out.symm, HB.out⟩
  · have hnn : ((xs.length : Int) != (ys.length : Int)) = true := by rw [bne_iff_ne]; omega
    have hne : (xs == ys) = false := by
      rw [beq_eq_false_iff_ne]; rintro rfl; exact hl rfl
    have HE := Lib.hid hne
    clear ha hb hl hne
    go_enter Try.func80, Try.ntmps80
    go_wp2
    go_ret
    exact ⟨ret_bool HE.out.symm, Below.refl _ _⟩

set_option maxRecDepth 100000 in
set_option maxHeartbeats 1000000 in
theorem isame_k (k a b c k' a' b' c' : Int) (d d' : ByteArray) (rs rs' : List (Int × Int)) (v v' : Value) (w : World) (h : Hid (Rngs w v rs)) (h' : Hid (Rngs w v' rs')) (hl : rs.length ≤ 1048576) (hl' : rs'.length ≤ 1048576) (hx : k ≠ k') :
    Calls Try.prog 61 #[frV ⟨k, a, b, c, d, rs⟩ v, frV ⟨k', a', b', c', d', rs'⟩ v'] w (BoolPost w (frEq ⟨k, a, b, c, d, rs⟩ ⟨k', a', b', c', d', rs'⟩)) := by
  unfold frV
  have HE : Hid (frEq ⟨k, a, b, c, d, rs⟩ ⟨k', a', b', c', d', rs'⟩ = false) := Lib.hid (frEq_no (fun h => hx (congrArg Fr.k h)))
  have hxb := bne_of hx
  go_enter Try.func61, Try.ntmps61
  go_wp2_with fail
  go_ret
  exact BoolPost.of HE.out.symm (((Below.refl w.heap.size w).alloc (Nat.le_refl _) _).alloc (by simp) _)

set_option maxRecDepth 100000 in
set_option maxHeartbeats 1000000 in
theorem isame_a (k a b c k' a' b' c' : Int) (d d' : ByteArray) (rs rs' : List (Int × Int)) (v v' : Value) (w : World) (h : Hid (Rngs w v rs)) (h' : Hid (Rngs w v' rs')) (hl : rs.length ≤ 1048576) (hl' : rs'.length ≤ 1048576) (hx : a ≠ a') :
    Calls Try.prog 61 #[frV ⟨k, a, b, c, d, rs⟩ v, frV ⟨k, a', b', c', d', rs'⟩ v'] w (BoolPost w (frEq ⟨k, a, b, c, d, rs⟩ ⟨k, a', b', c', d', rs'⟩)) := by
  unfold frV
  have HE : Hid (frEq ⟨k, a, b, c, d, rs⟩ ⟨k, a', b', c', d', rs'⟩ = false) := Lib.hid (frEq_no (fun h => hx (congrArg Fr.a h)))
  have hxb := bne_of hx
  go_enter Try.func61, Try.ntmps61
  go_wp2_with fail
  go_ret
  exact BoolPost.of HE.out.symm (((Below.refl w.heap.size w).alloc (Nat.le_refl _) _).alloc (by simp) _)

set_option maxRecDepth 100000 in
set_option maxHeartbeats 1000000 in
theorem isame_b (k a b c k' a' b' c' : Int) (d d' : ByteArray) (rs rs' : List (Int × Int)) (v v' : Value) (w : World) (h : Hid (Rngs w v rs)) (h' : Hid (Rngs w v' rs')) (hl : rs.length ≤ 1048576) (hl' : rs'.length ≤ 1048576) (hx : b ≠ b') :
    Calls Try.prog 61 #[frV ⟨k, a, b, c, d, rs⟩ v, frV ⟨k, a, b', c', d', rs'⟩ v'] w (BoolPost w (frEq ⟨k, a, b, c, d, rs⟩ ⟨k, a, b', c', d', rs'⟩)) := by
  unfold frV
  have HE : Hid (frEq ⟨k, a, b, c, d, rs⟩ ⟨k, a, b', c', d', rs'⟩ = false) := Lib.hid (frEq_no (fun h => hx (congrArg Fr.b h)))
  have hxb := bne_of hx
  go_enter Try.func61, Try.ntmps61
  go_wp2_with fail
  go_ret
  exact BoolPost.of HE.out.symm (((Below.refl w.heap.size w).alloc (Nat.le_refl _) _).alloc (by simp) _)

set_option maxRecDepth 100000 in
set_option maxHeartbeats 1000000 in
theorem isame_c (k a b c k' a' b' c' : Int) (d d' : ByteArray) (rs rs' : List (Int × Int)) (v v' : Value) (w : World) (h : Hid (Rngs w v rs)) (h' : Hid (Rngs w v' rs')) (hl : rs.length ≤ 1048576) (hl' : rs'.length ≤ 1048576) (hx : c ≠ c') :
    Calls Try.prog 61 #[frV ⟨k, a, b, c, d, rs⟩ v, frV ⟨k, a, b, c', d', rs'⟩ v'] w (BoolPost w (frEq ⟨k, a, b, c, d, rs⟩ ⟨k, a, b, c', d', rs'⟩)) := by
  unfold frV
  have HE : Hid (frEq ⟨k, a, b, c, d, rs⟩ ⟨k, a, b, c', d', rs'⟩ = false) := Lib.hid (frEq_no (fun h => hx (congrArg Fr.c h)))
  have hxb := bne_of hx
  go_enter Try.func61, Try.ntmps61
  go_wp2_with fail
  go_ret
  exact BoolPost.of HE.out.symm (((Below.refl w.heap.size w).alloc (Nat.le_refl _) _).alloc (by simp) _)

set_option maxRecDepth 100000 in
set_option maxHeartbeats 1000000 in
theorem isame_d (k a b c k' a' b' c' : Int) (d d' : ByteArray) (rs rs' : List (Int × Int)) (v v' : Value) (w : World) (h : Hid (Rngs w v rs)) (h' : Hid (Rngs w v' rs')) (hl : rs.length ≤ 1048576) (hl' : rs'.length ≤ 1048576) (hx : ¬ d.toList = d'.toList) :
    Calls Try.prog 61 #[frV ⟨k, a, b, c, d, rs⟩ v, frV ⟨k, a, b, c, d', rs'⟩ v'] w (BoolPost w (frEq ⟨k, a, b, c, d, rs⟩ ⟨k, a, b, c, d', rs'⟩)) := by
  unfold frV
  have HE : Hid (frEq ⟨k, a, b, c, d, rs⟩ ⟨k, a, b, c, d', rs'⟩ = false) := Lib.hid (frEq_no (fun h => hx (congrArg (fun f : Fr => f.d.toList) h)))
  go_enter Try.func61, Try.ntmps61
  go_wp2_with fail
  go_ret
  exact BoolPost.of HE.out.symm (((Below.refl w.heap.size w).alloc (Nat.le_refl _) _).alloc (by simp) _)

set_option maxRecDepth 100000 in
set_option maxHeartbeats 1000000 in
theorem isame_r (k a b c k' a' b' c' : Int) (d d' : ByteArray) (rs rs' : List (Int × Int)) (v v' : Value) (w : World) (h : Hid (Rngs w v rs)) (h' : Hid (Rngs w v' rs')) (hl : rs.length ≤ 1048576) (hl' : rs'.length ≤ 1048576)  :
    Calls Try.prog 61 #[frV ⟨k, a, b, c, d, rs⟩ v, frV ⟨k, a, b, c, d, rs'⟩ v'] w (BoolPost w (frEq ⟨k, a, b, c, d, rs⟩ ⟨k, a, b, c, d, rs'⟩)) := by
  unfold frV
  have HE : Hid (frEq ⟨k, a, b, c, d, rs⟩ ⟨k, a, b, c, d, rs'⟩ = (rs == rs')) := Lib.hid (by unfold frEq; simp)
  have BB : Hid (Below w.heap.size w ((w.alloc (.cells #[.int .i64 k, .int .i64 a, .int .i64 b, .int .i64 c, .string d, v] 25)).alloc (.cells #[.int .i64 k, .int .i64 a, .int .i64 b, .int .i64 c, .string d, v'] 25))) := Lib.hid (((Below.refl w.heap.size w).alloc (Nat.le_refl _) _).alloc (by simp) _)
  go_enter Try.func61, Try.ntmps61
  go_wp2_with fail
  refine (eqrg_any v v' rs rs' _ (h.out.below BB.out) (h'.out.below BB.out) hl hl').mono ?_
  rintro e w1 ⟨rfl, hb1⟩
  have HB1 := Lib.hid (BB.out.trans (hb1.mono BB.out.size))
  clear hb1
  go_wp2_with fail
  go_ret
  exact BoolPost.of HE.out.symm HB1.out

theorem isame_any (f g : Fr) (v v' : Value) (w : World) (h : Rngs w v f.rs) (h' : Rngs w v' g.rs) (hl : f.rs.length ≤ 1048576) (hl' : g.rs.length ≤ 1048576) :
    Calls Try.prog 61 #[frV f v, frV g v'] w (BoolPost w (frEq f g)) := by
  cases f with | mk k a b c d rs =>
  cases g with | mk k' a' b' c' d' rs' =>
  simp only at h h' hl hl'
  by_cases h1 : k = k'
  · subst h1
    by_cases h2 : a = a'
    · subst h2
      by_cases h3 : b = b'
      · subst h3
        by_cases h4 : c = c'
        · subst h4
          by_cases h5 : d.toList = d'.toList
          · have := toList_inj h5
            subst this
            exact isame_r k a b c 0 0 0 0 d d rs rs' v v' w (Lib.hid h) (Lib.hid h') hl hl'
          · exact isame_d k a b c 0 0 0 0 d d' rs rs' v v' w (Lib.hid h) (Lib.hid h') hl hl' h5
        · exact isame_c k a b c 0 0 0 c' d d' rs rs' v v' w (Lib.hid h) (Lib.hid h') hl hl' h4
      · exact isame_b k a b c 0 0 b' c' d d' rs rs' v v' w (Lib.hid h) (Lib.hid h') hl hl' h3
    · exact isame_a k a b c 0 a' b' c' d d' rs rs' v v' w (Lib.hid h) (Lib.hid h') hl hl' h2
  · exact isame_k k a b c k' a' b' c' d d' rs rs' v v' w (Lib.hid h) (Lib.hid h') hl hl' h1

/-- A body: its two methods and what they answer. -/
def Bod (w0 : World) (T : TypeId) (x : Value) (g : Fr) (u : Value) (q : Bool) : Prop :=
  ∃ ff fi : Nat, (∀ n W, Sem.run Try.prog (method (n + 1) T x "loop.example/multipathtransport/impl.frame") W = .ok (ff, x) W) ∧ (∀ n W, Sem.run Try.prog (method (n + 1) T x "loop.example/multipathtransport/impl.inRange") W = .ok (fi, x) W)
    ∧ (∀ r W, Sem.run Try.prog (callFunc ff r) W = .ok (.enter ff r) W) ∧ (∀ r W, Sem.run Try.prog (callFunc fi r) W = .ok (.enter fi r) W) ∧ (∀ W, Calls Try.prog ff #[x] W (RetPost W (frV g u))) ∧ (∀ W, Below w0.heap.size w0 W → Calls Try.prog fi #[x] W (BoolPost W q))

set_option maxRecDepth 100000 in
theorem bod_0 (a b c : Int) (d : ByteArray) (rs : List (Int × Int)) (ra : Option Addr) (rc : Nat) (w0 : World) (HR : Hid (Rngs w0 (.slice ra rs.length rc) rs)) (hl : rs.length ≤ 1048576) :
    Bod w0 (bodyT 0) (bodyX 0 a b c d (.slice ra rs.length rc)) (fnorm ⟨0, a, b, c, d, rs⟩) (vnorm 0 (.slice ra rs.length rc)) (finr ⟨0, a, b, c, d, rs⟩) :=
  ⟨110, 111, fun n W => by rfl, fun n W => by rfl, fun r W => by rfl, fun r W => by rfl, fun W => frame_0 W, fun W hW => inr_0 W⟩
set_option maxRecDepth 100000 in
theorem bod_1 (a b c : Int) (d : ByteArray) (rs : List (Int × Int)) (ra : Option Addr) (rc : Nat) (w0 : World) (HR : Hid (Rngs w0 (.slice ra rs.length rc) rs)) (hl : rs.length ≤ 1048576) :
    Bod w0 (bodyT 1) (bodyX 1 a b c d (.slice ra rs.length rc)) (fnorm ⟨1, a, b, c, d, rs⟩) (vnorm 1 (.slice ra rs.length rc)) (finr ⟨1, a, b, c, d, rs⟩) :=
  ⟨131, 132, fun n W => by rfl, fun n W => by rfl, fun r W => by rfl, fun r W => by rfl, fun W => frame_1 W, fun W hW => inr_1 W⟩
set_option maxRecDepth 100000 in
theorem bod_2 (a b c : Int) (d : ByteArray) (rs : List (Int × Int)) (ra : Option Addr) (rc : Nat) (w0 : World) (HR : Hid (Rngs w0 (.slice ra rs.length rc) rs)) (hl : rs.length ≤ 1048576) :
    Bod w0 (bodyT 2) (bodyX 2 a b c d (.slice ra rs.length rc)) (fnorm ⟨2, a, b, c, d, rs⟩) (vnorm 2 (.slice ra rs.length rc)) (finr ⟨2, a, b, c, d, rs⟩) :=
  ⟨112, 113, fun n W => by rfl, fun n W => by rfl, fun r W => by rfl, fun r W => by rfl, fun W => frame_2 a ra rs.length rc W, fun W hW => inr_2 a ra rc rs W (Lib.hid (HR.out.below hW)) hl⟩
set_option maxRecDepth 100000 in
theorem bod_3 (a b c : Int) (d : ByteArray) (rs : List (Int × Int)) (ra : Option Addr) (rc : Nat) (w0 : World) (HR : Hid (Rngs w0 (.slice ra rs.length rc) rs)) (hl : rs.length ≤ 1048576) :
    Bod w0 (bodyT 3) (bodyX 3 a b c d (.slice ra rs.length rc)) (fnorm ⟨3, a, b, c, d, rs⟩) (vnorm 3 (.slice ra rs.length rc)) (finr ⟨3, a, b, c, d, rs⟩) :=
  ⟨117, 118, fun n W => by rfl, fun n W => by rfl, fun r W => by rfl, fun r W => by rfl, fun W => frame_3 a b c d W, fun W hW => inr_3 a b c d W⟩
set_option maxRecDepth 100000 in
theorem bod_4 (a b c : Int) (d : ByteArray) (rs : List (Int × Int)) (ra : Option Addr) (rc : Nat) (w0 : World) (HR : Hid (Rngs w0 (.slice ra rs.length rc) rs)) (hl : rs.length ≤ 1048576) :
    Bod w0 (bodyT 4) (bodyX 4 a b c d (.slice ra rs.length rc)) (fnorm ⟨4, a, b, c, d, rs⟩) (vnorm 4 (.slice ra rs.length rc)) (finr ⟨4, a, b, c, d, rs⟩) :=
  ⟨119, 120, fun n W => by rfl, fun n W => by rfl, fun r W => by rfl, fun r W => by rfl, fun W => frame_4 a b W, fun W hW => inr_4 a b W⟩
set_option maxRecDepth 100000 in
theorem bod_5 (a b c : Int) (d : ByteArray) (rs : List (Int × Int)) (ra : Option Addr) (rc : Nat) (w0 : World) (HR : Hid (Rngs w0 (.slice ra rs.length rc) rs)) (hl : rs.length ≤ 1048576) :
    Bod w0 (bodyT 5) (bodyX 5 a b c d (.slice ra rs.length rc)) (fnorm ⟨5, a, b, c, d, rs⟩) (vnorm 5 (.slice ra rs.length rc)) (finr ⟨5, a, b, c, d, rs⟩) :=
  ⟨121, 122, fun n W => by rfl, fun n W => by rfl, fun r W => by rfl, fun r W => by rfl, fun W => frame_5 a W, fun W hW => inr_5 a W⟩
set_option maxRecDepth 100000 in
theorem bod_6 (a b c : Int) (d : ByteArray) (rs : List (Int × Int)) (ra : Option Addr) (rc : Nat) (w0 : World) (HR : Hid (Rngs w0 (.slice ra rs.length rc) rs)) (hl : rs.length ≤ 1048576) :
    Bod w0 (bodyT 6) (bodyX 6 a b c d (.slice ra rs.length rc)) (fnorm ⟨6, a, b, c, d, rs⟩) (vnorm 6 (.slice ra rs.length rc)) (finr ⟨6, a, b, c, d, rs⟩) :=
  ⟨123, 124, fun n W => by rfl, fun n W => by rfl, fun r W => by rfl, fun r W => by rfl, fun W => frame_6 a W, fun W hW => inr_6 a W⟩
set_option maxRecDepth 100000 in
theorem bod_7 (a b c : Int) (d : ByteArray) (rs : List (Int × Int)) (ra : Option Addr) (rc : Nat) (w0 : World) (HR : Hid (Rngs w0 (.slice ra rs.length rc) rs)) (hl : rs.length ≤ 1048576) :
    Bod w0 (bodyT 7) (bodyX 7 a b c d (.slice ra rs.length rc)) (fnorm ⟨7, a, b, c, d, rs⟩) (vnorm 7 (.slice ra rs.length rc)) (finr ⟨7, a, b, c, d, rs⟩) :=
  ⟨125, 126, fun n W => by rfl, fun n W => by rfl, fun r W => by rfl, fun r W => by rfl, fun W => frame_7 a b W, fun W hW => inr_7 a b W⟩
set_option maxRecDepth 100000 in
theorem bod_8 (a b c : Int) (d : ByteArray) (rs : List (Int × Int)) (ra : Option Addr) (rc : Nat) (w0 : World) (HR : Hid (Rngs w0 (.slice ra rs.length rc) rs)) (hl : rs.length ≤ 1048576) :
    Bod w0 (bodyT 8) (bodyX 8 a b c d (.slice ra rs.length rc)) (fnorm ⟨8, a, b, c, d, rs⟩) (vnorm 8 (.slice ra rs.length rc)) (finr ⟨8, a, b, c, d, rs⟩) :=
  ⟨127, 128, fun n W => by rfl, fun n W => by rfl, fun r W => by rfl, fun r W => by rfl, fun W => frame_8 a W, fun W hW => inr_8 a W⟩
set_option maxRecDepth 100000 in
theorem bod_9 (a b c : Int) (d : ByteArray) (rs : List (Int × Int)) (ra : Option Addr) (rc : Nat) (w0 : World) (HR : Hid (Rngs w0 (.slice ra rs.length rc) rs)) (hl : rs.length ≤ 1048576) :
    Bod w0 (bodyT 9) (bodyX 9 a b c d (.slice ra rs.length rc)) (fnorm ⟨9, a, b, c, d, rs⟩) (vnorm 9 (.slice ra rs.length rc)) (finr ⟨9, a, b, c, d, rs⟩) :=
  ⟨129, 130, fun n W => by rfl, fun n W => by rfl, fun r W => by rfl, fun r W => by rfl, fun W => frame_9 d W, fun W hW => inr_9 d W⟩
set_option maxRecDepth 100000 in
theorem bod_10 (a b c : Int) (d : ByteArray) (rs : List (Int × Int)) (ra : Option Addr) (rc : Nat) (w0 : World) (HR : Hid (Rngs w0 (.slice ra rs.length rc) rs)) (hl : rs.length ≤ 1048576) :
    Bod w0 (bodyT 10) (bodyX 10 a b c d (.slice ra rs.length rc)) (fnorm ⟨10, a, b, c, d, rs⟩) (vnorm 10 (.slice ra rs.length rc)) (finr ⟨10, a, b, c, d, rs⟩) :=
  ⟨115, 116, fun n W => by rfl, fun n W => by rfl, fun r W => by rfl, fun r W => by rfl, fun W => frame_10 a W, fun W hW => inr_10 a W⟩
theorem bod_any (f : Fr) (ra : Option Addr) (rc : Nat) (w0 : World) (HR : Hid (Rngs w0 (.slice ra f.rs.length rc) f.rs)) (hl : f.rs.length ≤ 1048576) (h : 0 ≤ f.k ∧ f.k ≤ 10) :
    Bod w0 (bodyT f.k) (bodyX f.k f.a f.b f.c f.d (.slice ra f.rs.length rc)) (fnorm f) (vnorm f.k (.slice ra f.rs.length rc)) (finr f) := by
  obtain ⟨k, a, b, c, d, rs⟩ := f
  simp only at HR hl h ⊢
  have : k = 0 ∨ k = 1 ∨ k = 2 ∨ k = 3 ∨ k = 4 ∨ k = 5 ∨ k = 6 ∨ k = 7 ∨ k = 8 ∨ k = 9 ∨ k = 10 := by omega
  rcases this with rfl | rfl | rfl | rfl | rfl | rfl | rfl | rfl | rfl | rfl | rfl
  · exact bod_0 a b c d rs ra rc w0 HR hl
  · exact bod_1 a b c d rs ra rc w0 HR hl
  · exact bod_2 a b c d rs ra rc w0 HR hl
  · exact bod_3 a b c d rs ra rc w0 HR hl
  · exact bod_4 a b c d rs ra rc w0 HR hl
  · exact bod_5 a b c d rs ra rc w0 HR hl
  · exact bod_6 a b c d rs ra rc w0 HR hl
  · exact bod_7 a b c d rs ra rc w0 HR hl
  · exact bod_8 a b c d rs ra rc w0 HR hl
  · exact bod_9 a b c d rs ra rc w0 HR hl
  · exact bod_10 a b c d rs ra rc w0 HR hl

theorem cell6 {w' w'' : World} {b : Nat} {v0 v1 v2 v3 v4 v5 : Value} (hlt : b < w'.heap.size) (hb : Below w'.heap.size w' w'') (h : w'.cell? ⟨b, 0, none⟩ = some v0 ∧ w'.cell? ⟨b, 1, none⟩ = some v1 ∧ w'.cell? ⟨b, 2, none⟩ = some v2 ∧ w'.cell? ⟨b, 3, none⟩ = some v3 ∧ w'.cell? ⟨b, 4, none⟩ = some v4 ∧ w'.cell? ⟨b, 5, none⟩ = some v5) :
    w''.cell? ⟨b, 0, none⟩ = some v0 ∧ w''.cell? ⟨b, 1, none⟩ = some v1 ∧ w''.cell? ⟨b, 2, none⟩ = some v2 ∧ w''.cell? ⟨b, 3, none⟩ = some v3 ∧ w''.cell? ⟨b, 4, none⟩ = some v4 ∧ w''.cell? ⟨b, 5, none⟩ = some v5 :=
  ⟨(hb.cell (p := ⟨b, 0, none⟩) hlt).trans h.1, (hb.cell (p := ⟨b, 1, none⟩) hlt).trans h.2.1, (hb.cell (p := ⟨b, 2, none⟩) hlt).trans h.2.2.1, (hb.cell (p := ⟨b, 3, none⟩) hlt).trans h.2.2.2.1, (hb.cell (p := ⟨b, 4, none⟩) hlt).trans h.2.2.2.2.1, (hb.cell (p := ⟨b, 5, none⟩) hlt).trans h.2.2.2.2.2⟩
theorem vnorm_rngs {w : World} {f : Fr} {v : Value} (h : Rngs w v f.rs) : Rngs w (vnorm f.k v) (fnorm f).rs := by
  unfold vnorm fnorm
  by_cases h2 : f.k = 2
  · rw [if_pos h2]; simp only [if_pos h2]; exact h
  · rw [if_neg h2]; simp only [if_neg h2]; exact ⟨none, 0, rfl, fun h => absurd rfl h⟩
theorem fnorm_len (f : Fr) : (fnorm f).rs.length ≤ f.rs.length := by
  unfold fnorm; simp only; split <;> simp

set_option maxRecDepth 100000 in
set_option maxHeartbeats 2000000 in
theorem vb_t (k a b c : Int) (d : ByteArray) (rs : List (Int × Int)) (ra : Option Addr) (rc : Nat) (w : World) (T : TypeId) (x : Value) (HR : Hid (Rngs w (.slice ra rs.length rc) rs)) (hl : rs.length ≤ 1048576)
   (H1 : Hid (bodyR ⟨k, a, b, c, d, rs⟩ (.slice ra rs.length rc) = .tuple #[.iface T x, .bool true])) (g : Fr) (u : Value) (HU : Hid (Rngs w u g.rs)) (hgl : g.rs.length ≤ 1048576) (HB : Hid (Bod w T x g u true)) (q : Bool) (HQ : Hid (frEq g ⟨k, a, b, c, d, rs⟩ = q)) (R : Value) (HV : Hid ((if q then Value.tuple #[.iface T x, .bool true] else Value.tuple #[.nilIface, .bool false]) = R)) :
    Calls Try.prog 42 #[frV ⟨k, a, b, c, d, rs⟩ (.slice ra rs.length rc)] w (RetPost w R) := by
  have HO := Lib.hid (fun W => bodyOf_any ⟨k, a, b, c, d, rs⟩ ra rs.length rc W)
  have HS := Lib.hid (fun W v h => isame_any g ⟨k, a, b, c, d, rs⟩ u v W h)
  unfold frV at HO HS ⊢
  rw [H1.out] at HO
  rw [HQ.out] at HS
  obtain ⟨ff, fi, m1, m2, n1, n2, c1, c2⟩ := HB.out
  unfold frV at c1
  have C1 := Lib.hid c1
  have C2 := Lib.hid c2
  clear c1 c2
  go_enter Try.func42, Try.ntmps42
  go_wp2_with fail
  refine (HO.out _).mono ?_
  rintro e w1 ⟨rfl, hb1⟩
  have f0 : w1.cell? ⟨w.heap.size, 0, none⟩ = some (.int .i64 k) ∧ w1.cell? ⟨w.heap.size, 1, none⟩ = some (.int .i64 a) ∧ w1.cell? ⟨w.heap.size, 2, none⟩ = some (.int .i64 b) ∧ w1.cell? ⟨w.heap.size, 3, none⟩ = some (.int .i64 c) ∧ w1.cell? ⟨w.heap.size, 4, none⟩ = some (.string d) ∧ w1.cell? ⟨w.heap.size, 5, none⟩ = some (.slice ra rs.length rc) := by
    have hc := fr_cells (vs := [.int .i64 k, .int .i64 a, .int .i64 b, .int .i64 c, .string d, .slice ra rs.length rc]) hb1
    exact ⟨hc 0, hc 1, hc 2, hc 3, hc 4, hc 5⟩
  have B1 := Lib.hid ((((Below.refl w.heap.size w).alloc (Nat.le_refl _) _).trans (hb1.mono (by simp))).drew)
  have HLT : Hid (w.heap.size < w1.drew.heap.size) := Lib.hid (by have := hb1.size; simp at this ⊢; omega)
  clear hb1
  go_wp2_with fail
  obtain ⟨p0, p1, p2, p3, p4, p5⟩ := f0
  have d6 : w1.drew.cell? ⟨w.heap.size, 0, none⟩ = some (.int .i64 k) ∧ w1.drew.cell? ⟨w.heap.size, 1, none⟩ = some (.int .i64 a) ∧ w1.drew.cell? ⟨w.heap.size, 2, none⟩ = some (.int .i64 b) ∧ w1.drew.cell? ⟨w.heap.size, 3, none⟩ = some (.int .i64 c) ∧ w1.drew.cell? ⟨w.heap.size, 4, none⟩ = some (.string d) ∧ w1.drew.cell? ⟨w.heap.size, 5, none⟩ = some (.slice ra rs.length rc) := ⟨p0, p1, p2, p3, p4, p5⟩
  have D6 := Lib.hid d6
  go_region_held3 (fun w' => w'.cell? ⟨w.heap.size, 0, none⟩ = some (.int .i64 k) ∧ w'.cell? ⟨w.heap.size, 1, none⟩ = some (.int .i64 a) ∧ w'.cell? ⟨w.heap.size, 2, none⟩ = some (.int .i64 b) ∧ w'.cell? ⟨w.heap.size, 3, none⟩ = some (.int .i64 c) ∧ w'.cell? ⟨w.heap.size, 4, none⟩ = some (.string d) ∧ w'.cell? ⟨w.heap.size, 5, none⟩ = some (.slice ra rs.length rc))
    (first | assumption | exact ⟨p0, p1, p2, p3, p4, p5⟩ | exact d6 | exact k2 | exact k3 | exact k4)
    (first
      | (go_at_call 61; refine (HS.out _ _ (HU.out.below (B1.out.trans ((hb2.trans (hb3.mono hb2.size)).mono B1.out.size))) (HR.out.below (B1.out.trans ((hb2.trans (hb3.mono hb2.size)).mono B1.out.size))) hgl hl).mono ?_; rintro e w4 ⟨rfl, hb4⟩; have k4 : w4.cell? ⟨w.heap.size, 0, none⟩ = some (.int .i64 k) ∧ w4.cell? ⟨w.heap.size, 1, none⟩ = some (.int .i64 a) ∧ w4.cell? ⟨w.heap.size, 2, none⟩ = some (.int .i64 b) ∧ w4.cell? ⟨w.heap.size, 3, none⟩ = some (.int .i64 c) ∧ w4.cell? ⟨w.heap.size, 4, none⟩ = some (.string d) ∧ w4.cell? ⟨w.heap.size, 5, none⟩ = some (.slice ra rs.length rc) := cell6 (Nat.lt_of_lt_of_le (Nat.lt_of_lt_of_le HLT.out hb2.size) hb3.size) hb4 k3)
      | ((with_reducible refine (C1.out _).mono ?_); rintro e w3 ⟨rfl, hb3⟩; have k3 : w3.cell? ⟨w.heap.size, 0, none⟩ = some (.int .i64 k) ∧ w3.cell? ⟨w.heap.size, 1, none⟩ = some (.int .i64 a) ∧ w3.cell? ⟨w.heap.size, 2, none⟩ = some (.int .i64 b) ∧ w3.cell? ⟨w.heap.size, 3, none⟩ = some (.int .i64 c) ∧ w3.cell? ⟨w.heap.size, 4, none⟩ = some (.string d) ∧ w3.cell? ⟨w.heap.size, 5, none⟩ = some (.slice ra rs.length rc) := cell6 (Nat.lt_of_lt_of_le HLT.out hb2.size) hb3 k2)
      | ((with_reducible refine (C2.out _ B1.out).mono ?_); rintro e w2 ⟨rfl, hb2⟩; have k2 : w2.cell? ⟨w.heap.size, 0, none⟩ = some (.int .i64 k) ∧ w2.cell? ⟨w.heap.size, 1, none⟩ = some (.int .i64 a) ∧ w2.cell? ⟨w.heap.size, 2, none⟩ = some (.int .i64 b) ∧ w2.cell? ⟨w.heap.size, 3, none⟩ = some (.int .i64 c) ∧ w2.cell? ⟨w.heap.size, 4, none⟩ = some (.string d) ∧ w2.cell? ⟨w.heap.size, 5, none⟩ = some (.slice ra rs.length rc) := cell6 HLT.out hb2 D6.out))
  have HB4 := Lib.hid (B1.out.trans ((hb2.trans ((hb3.trans (hb4.mono hb3.size)).mono hb2.size)).mono B1.out.size))
  clear hb2 hb3 hb4 k2 k3 k4 d6
  cases q
  · go_wp2_with fail
    go_ret2
    exact ⟨by rw [← HV.out]; rfl, HB4.out⟩
  · go_wp2_with fail
    go_ret2
    exact ⟨by rw [← HV.out]; rfl, HB4.out⟩

set_option maxRecDepth 100000 in
set_option maxHeartbeats 2000000 in
theorem vb_f (k a b c : Int) (d : ByteArray) (rs : List (Int × Int)) (ra : Option Addr) (rc : Nat) (w : World) (T : TypeId) (x : Value) (HR : Hid (Rngs w (.slice ra rs.length rc) rs)) (hl : rs.length ≤ 1048576)
   (H1 : Hid (bodyR ⟨k, a, b, c, d, rs⟩ (.slice ra rs.length rc) = .tuple #[.iface T x, .bool true])) (g : Fr) (u : Value) (HB : Hid (Bod w T x g u false)) :
    Calls Try.prog 42 #[frV ⟨k, a, b, c, d, rs⟩ (.slice ra rs.length rc)] w (RetPost w (.tuple #[.nilIface, .bool false])) := by
  have HO := Lib.hid (fun W => bodyOf_any ⟨k, a, b, c, d, rs⟩ ra rs.length rc W)
  unfold frV at HO ⊢
  rw [H1.out] at HO
  obtain ⟨ff, fi, m1, m2, n1, n2, c1, c2⟩ := HB.out
  unfold frV at c1
  have C1 := Lib.hid c1
  have C2 := Lib.hid c2
  clear c1 c2
  go_enter Try.func42, Try.ntmps42
  go_wp2_with fail
  refine (HO.out _).mono ?_
  rintro e w1 ⟨rfl, hb1⟩
  have f0 : w1.cell? ⟨w.heap.size, 0, none⟩ = some (.int .i64 k) ∧ w1.cell? ⟨w.heap.size, 1, none⟩ = some (.int .i64 a) ∧ w1.cell? ⟨w.heap.size, 2, none⟩ = some (.int .i64 b) ∧ w1.cell? ⟨w.heap.size, 3, none⟩ = some (.int .i64 c) ∧ w1.cell? ⟨w.heap.size, 4, none⟩ = some (.string d) ∧ w1.cell? ⟨w.heap.size, 5, none⟩ = some (.slice ra rs.length rc) := by
    have hc := fr_cells (vs := [.int .i64 k, .int .i64 a, .int .i64 b, .int .i64 c, .string d, .slice ra rs.length rc]) hb1
    exact ⟨hc 0, hc 1, hc 2, hc 3, hc 4, hc 5⟩
  have B1 := Lib.hid ((((Below.refl w.heap.size w).alloc (Nat.le_refl _) _).trans (hb1.mono (by simp))).drew)
  have HLT : Hid (w.heap.size < w1.drew.heap.size) := Lib.hid (by have := hb1.size; simp at this ⊢; omega)
  clear hb1
  go_wp2_with fail
  obtain ⟨p0, p1, p2, p3, p4, p5⟩ := f0
  have d6 : w1.drew.cell? ⟨w.heap.size, 0, none⟩ = some (.int .i64 k) ∧ w1.drew.cell? ⟨w.heap.size, 1, none⟩ = some (.int .i64 a) ∧ w1.drew.cell? ⟨w.heap.size, 2, none⟩ = some (.int .i64 b) ∧ w1.drew.cell? ⟨w.heap.size, 3, none⟩ = some (.int .i64 c) ∧ w1.drew.cell? ⟨w.heap.size, 4, none⟩ = some (.string d) ∧ w1.drew.cell? ⟨w.heap.size, 5, none⟩ = some (.slice ra rs.length rc) := ⟨p0, p1, p2, p3, p4, p5⟩
  have D6 := Lib.hid d6
  first
    | (go_region_with (((with_reducible refine (C2.out _ B1.out).mono ?_); rintro e w2 ⟨rfl, hb2⟩)))
    | fail
  all_goals
    have HB4 := Lib.hid (B1.out.trans (hb2.mono B1.out.size))
    clear hb2 d6
    go_wp2_with fail
    go_ret2
    exact ⟨rfl, HB4.out⟩
set_option maxRecDepth 100000 in
set_option maxHeartbeats 2000000 in
theorem vb_n (f : Fr) (ra : Option Addr) (rc : Nat) (w : World) (H1 : Hid (bodyR f (.slice ra f.rs.length rc) = .tuple #[.nilIface, .bool false])) :
    Calls Try.prog 42 #[frV f (.slice ra f.rs.length rc)] w (RetPost w (.tuple #[.nilIface, .bool false])) := by
  have HO := Lib.hid (fun W => bodyOf_any f ra f.rs.length rc W)
  unfold frV at HO ⊢
  rw [H1.out] at HO
  go_enter Try.func42, Try.ntmps42
  go_wp2_with fail
  refine (HO.out _).mono ?_
  rintro e w1 ⟨rfl, hb1⟩
  have B1 := Lib.hid ((((Below.refl w.heap.size w).alloc (Nat.le_refl _) _).trans (hb1.mono (by simp))))
  clear hb1
  go_wp2_with fail
  go_quiet (fail)
  go_wp2_with fail
  go_ret2
  exact ⟨rfl, below_drewN' B1.out _⟩

theorem fok_eq (f : Fr) : fok f = (decide (0 ≤ f.k ∧ f.k ≤ 10) && (finr f && frEq (fnorm f) f)) := by
  obtain ⟨k, a, b, c, d, rs⟩ := f
  have e1 : decide (ByteArray.mk #[] = d) = decide (d.size = 0) := decide_eq_decide.2 ⟨fun h => by rw [← h]; rfl, fun h => (bytes_zero h).symm⟩
  have e2 : (([] : List (Int × Int)) == rs) = decide (rs.length = 0) := by cases rs <;> rfl
  by_cases h : 0 ≤ k ∧ k ≤ 10
  · unfold fok fun1 fun2 ffld finr fnorm frEq fnum
    have : k = 0 ∨ k = 1 ∨ k = 2 ∨ k = 3 ∨ k = 4 ∨ k = 5 ∨ k = 6 ∨ k = 7 ∨ k = 8 ∨ k = 9 ∨ k = 10 := by omega
    rcases this with rfl | rfl | rfl | rfl | rfl | rfl | rfl | rfl | rfl | rfl | rfl <;> simp only [reduceIte, Int.reduceEq, or_self, or_false, false_or, or_true, true_or, e1, e2, beq_self_eq_true, decide_true, ne_eq, not_false_eq_true, not_true_eq_false] <;> clear e1 e2 h <;> generalize d.size = n <;> generalize rvalid rs = r <;> generalize rs.length = m <;> cases r <;> rw [Bool.eq_iff_iff] <;> simp only [Bool.and_eq_true, decide_eq_true_eq, beq_iff_eq, Bool.false_eq_true, and_false, false_and, true_implies, false_implies, Nat.reduceLT, and_true, true_and] <;> omega
  · rw [decide_eq_false h, Bool.false_and]
    cases hf : fok ⟨k, a, b, c, d, rs⟩
    · rfl
    · exact absurd (fok_k hf) h
def vbR (f : Fr) (v : Value) : Value := if fok f then .tuple #[bodyV f v, .bool true] else .tuple #[.nilIface, .bool false]
theorem vb_any (f : Fr) (v : Value) (w : World) (h : Rngs w v f.rs) (hl : f.rs.length ≤ 1048576) :
    Calls Try.prog 42 #[frV f v] w (RetPost w (vbR f v)) := by
  obtain ⟨ra, rc, rfl, hc⟩ := h
  have HR : Hid (Rngs w (.slice ra f.rs.length rc) f.rs) := Lib.hid ⟨ra, rc, rfl, hc⟩
  have hq := fok_eq f
  by_cases h : 0 ≤ f.k ∧ f.k ≤ 10
  · have H1 : Hid (bodyR f (.slice ra f.rs.length rc) = .tuple #[bodyV f (.slice ra f.rs.length rc), .bool true]) := Lib.hid (bodyR_yes h)
    have hb := bod_any f ra rc w HR hl h
    have hg := fnorm_len f
    cases hi : finr f
    · rw [hi] at hb
      have hf : fok f = false := by rw [hq, hi]; simp
      have := vb_f f.k f.a f.b f.c f.d f.rs ra rc w _ _ HR hl H1 _ _ (Lib.hid hb)
      unfold vbR; rw [hf]; exact this
    · rw [hi] at hb
      have := vb_t f.k f.a f.b f.c f.d f.rs ra rc w _ _ HR hl H1 _ _ (Lib.hid (vnorm_rngs HR.out)) (by omega) (Lib.hid hb) (fok f) (Lib.hid (by rw [hq, hi, decide_eq_true h]; simp)) (vbR f (.slice ra f.rs.length rc)) (Lib.hid (by unfold vbR bodyV; rfl))
      exact this
  · have hf : fok f = false := by rw [hq, decide_eq_false h]; rfl
    have := vb_n f ra rc w (Lib.hid (bodyR_no h))
    unfold vbR; rw [hf]; exact this

set_option maxRecDepth 100000 in
set_option maxHeartbeats 1000000 in
theorem ifok_any (f : Fr) (v : Value) (w : World) (h : Rngs w v f.rs) (hl : f.rs.length ≤ 1048576) (hd : f.d.size ≤ 2097152) : Calls Try.prog 22 #[frV f v] w (BoolPost w (fok f)) := by
  have H := Lib.hid h
  obtain ⟨q, hq⟩ : ∃ q, fok f = q := ⟨_, rfl⟩
  have HV := Lib.hid (fun W h => vb_any f v W h hl)
  unfold vbR frV bodyV at HV
  unfold frV
  rw [hq] at HV ⊢
  clear h hq
  cases q
  all_goals
    go_enter Try.func22, Try.ntmps22
    go_wp2_with fail
    refine (HV.out _ (H.out.below ((Below.refl _ _).alloc (Nat.le_refl _) _))).mono ?_
    rintro e w1 ⟨rfl, hb⟩
    have HB := Lib.hid (((Below.refl w.heap.size w).alloc (Nat.le_refl _) _).trans (hb.mono (by simp)))
    clear hb
    go_wp2_with fail
    go_ret
    exact BoolPost.of rfl HB.out

set_option maxRecDepth 100000 in
set_option maxHeartbeats 1000000 in
theorem ifel_0 (a b c : Int) (d : ByteArray) (rs : List (Int × Int)) (ra : Option Addr) (rc : Nat) (w : World) (H : Hid (Rngs w (.slice ra rs.length rc) rs)) (hl : rs.length ≤ 1048576) (HF : Hid (fok ⟨0, a, b, c, d, rs⟩ = true)) : Calls Try.prog 33 #[frV ⟨0, a, b, c, d, rs⟩ (.slice ra rs.length rc)] w (BoolPost w (fel ⟨0, a, b, c, d, rs⟩)) := by
  have HV : Hid (∀ W, Rngs W (.slice ra rs.length rc) rs → Calls Try.prog 42 #[.agg #[.int .i64 0, .int .i64 a, .int .i64 b, .int .i64 c, .string d, .slice ra rs.length rc]] W (RetPost W (.tuple #[.iface 78 (.agg #[]), .bool true]))) := Lib.hid (fun W h => by
    have := vb_any ⟨0, a, b, c, d, rs⟩ (.slice ra rs.length rc) W h hl
    unfold vbR at this
    rw [HF.out] at this
    exact this)
  unfold frV
  have ta1 := fun (W : World) (x : Value) => (show Sem.run Try.prog (Instr.typeAssert (.iface 78 x) 54 78 true) W = .ok (.tuple #[x, .bool true]) W by rfl)
  have ta2 := fun (W : World) (x : Value) => (show Sem.run Try.prog (Instr.typeAssert (.iface 78 x) 54 80 true) W = .ok (.tuple #[.agg #[.int .i64 0, .slice none 0 0], .bool false]) W by rfl)
  have ta3 := fun (W : World) (x : Value) => (show Sem.run Try.prog (Instr.typeAssert (.iface 78 x) 54 82 true) W = .ok (.tuple #[.agg #[.int .i64 0], .bool false]) W by rfl)
  go_enter Try.func33, Try.ntmps33
  go_wp2_with fail
  refine (HV.out _ (H.out.below ((Below.refl _ _).alloc (Nat.le_refl _) _))).mono ?_
  rintro e w1 ⟨rfl, hb⟩
  have HB := Lib.hid (((Below.refl w.heap.size w).alloc (Nat.le_refl _) _).trans (hb.mono (by simp)))
  clear hb
  go_wp2_with fail
  go_ret
  exact BoolPost.of (by unfold fel; rw [HF.out]; rfl) HB.out
set_option maxRecDepth 100000 in
set_option maxHeartbeats 1000000 in
theorem ifel_1 (a b c : Int) (d : ByteArray) (rs : List (Int × Int)) (ra : Option Addr) (rc : Nat) (w : World) (H : Hid (Rngs w (.slice ra rs.length rc) rs)) (hl : rs.length ≤ 1048576) (HF : Hid (fok ⟨1, a, b, c, d, rs⟩ = true)) : Calls Try.prog 33 #[frV ⟨1, a, b, c, d, rs⟩ (.slice ra rs.length rc)] w (BoolPost w (fel ⟨1, a, b, c, d, rs⟩)) := by
  have HV : Hid (∀ W, Rngs W (.slice ra rs.length rc) rs → Calls Try.prog 42 #[.agg #[.int .i64 1, .int .i64 a, .int .i64 b, .int .i64 c, .string d, .slice ra rs.length rc]] W (RetPost W (.tuple #[.iface 111 (.agg #[]), .bool true]))) := Lib.hid (fun W h => by
    have := vb_any ⟨1, a, b, c, d, rs⟩ (.slice ra rs.length rc) W h hl
    unfold vbR at this
    rw [HF.out] at this
    exact this)
  unfold frV
  have ta1 := fun (W : World) (x : Value) => (show Sem.run Try.prog (Instr.typeAssert (.iface 111 x) 54 78 true) W = .ok (.tuple #[.agg #[], .bool false]) W by rfl)
  have ta2 := fun (W : World) (x : Value) => (show Sem.run Try.prog (Instr.typeAssert (.iface 111 x) 54 80 true) W = .ok (.tuple #[.agg #[.int .i64 0, .slice none 0 0], .bool false]) W by rfl)
  have ta3 := fun (W : World) (x : Value) => (show Sem.run Try.prog (Instr.typeAssert (.iface 111 x) 54 82 true) W = .ok (.tuple #[.agg #[.int .i64 0], .bool false]) W by rfl)
  go_enter Try.func33, Try.ntmps33
  go_wp2_with fail
  refine (HV.out _ (H.out.below ((Below.refl _ _).alloc (Nat.le_refl _) _))).mono ?_
  rintro e w1 ⟨rfl, hb⟩
  have HB := Lib.hid (((Below.refl w.heap.size w).alloc (Nat.le_refl _) _).trans (hb.mono (by simp)))
  clear hb
  go_wp2_with fail
  go_ret
  exact BoolPost.of (by unfold fel; rw [HF.out]; rfl) HB.out
set_option maxRecDepth 100000 in
set_option maxHeartbeats 1000000 in
theorem ifel_2 (a b c : Int) (d : ByteArray) (rs : List (Int × Int)) (ra : Option Addr) (rc : Nat) (w : World) (H : Hid (Rngs w (.slice ra rs.length rc) rs)) (hl : rs.length ≤ 1048576) (HF : Hid (fok ⟨2, a, b, c, d, rs⟩ = true)) : Calls Try.prog 33 #[frV ⟨2, a, b, c, d, rs⟩ (.slice ra rs.length rc)] w (BoolPost w (fel ⟨2, a, b, c, d, rs⟩)) := by
  have HV : Hid (∀ W, Rngs W (.slice ra rs.length rc) rs → Calls Try.prog 42 #[.agg #[.int .i64 2, .int .i64 a, .int .i64 b, .int .i64 c, .string d, .slice ra rs.length rc]] W (RetPost W (.tuple #[.iface 80 (.agg #[.int .i64 a, .slice ra rs.length rc]), .bool true]))) := Lib.hid (fun W h => by
    have := vb_any ⟨2, a, b, c, d, rs⟩ (.slice ra rs.length rc) W h hl
    unfold vbR at this
    rw [HF.out] at this
    exact this)
  unfold frV
  have ta1 := fun (W : World) (x : Value) => (show Sem.run Try.prog (Instr.typeAssert (.iface 80 x) 54 78 true) W = .ok (.tuple #[.agg #[], .bool false]) W by rfl)
  have ta2 := fun (W : World) (x : Value) => (show Sem.run Try.prog (Instr.typeAssert (.iface 80 x) 54 80 true) W = .ok (.tuple #[x, .bool true]) W by rfl)
  have ta3 := fun (W : World) (x : Value) => (show Sem.run Try.prog (Instr.typeAssert (.iface 80 x) 54 82 true) W = .ok (.tuple #[.agg #[.int .i64 0], .bool false]) W by rfl)
  go_enter Try.func33, Try.ntmps33
  go_wp2_with fail
  refine (HV.out _ (H.out.below ((Below.refl _ _).alloc (Nat.le_refl _) _))).mono ?_
  rintro e w1 ⟨rfl, hb⟩
  have HB := Lib.hid (((Below.refl w.heap.size w).alloc (Nat.le_refl _) _).trans (hb.mono (by simp)))
  clear hb
  go_wp2_with fail
  go_ret
  exact BoolPost.of (by unfold fel; rw [HF.out]; rfl) HB.out
set_option maxRecDepth 100000 in
set_option maxHeartbeats 1000000 in
theorem ifel_3 (a b c : Int) (d : ByteArray) (rs : List (Int × Int)) (ra : Option Addr) (rc : Nat) (w : World) (H : Hid (Rngs w (.slice ra rs.length rc) rs)) (hl : rs.length ≤ 1048576) (HF : Hid (fok ⟨3, a, b, c, d, rs⟩ = true)) : Calls Try.prog 33 #[frV ⟨3, a, b, c, d, rs⟩ (.slice ra rs.length rc)] w (BoolPost w (fel ⟨3, a, b, c, d, rs⟩)) := by
  have HV : Hid (∀ W, Rngs W (.slice ra rs.length rc) rs → Calls Try.prog 42 #[.agg #[.int .i64 3, .int .i64 a, .int .i64 b, .int .i64 c, .string d, .slice ra rs.length rc]] W (RetPost W (.tuple #[.iface 94 (.agg #[.int .i64 a, .int .i64 b, .int .i64 c, .string d]), .bool true]))) := Lib.hid (fun W h => by
    have := vb_any ⟨3, a, b, c, d, rs⟩ (.slice ra rs.length rc) W h hl
    unfold vbR at this
    rw [HF.out] at this
    exact this)
  unfold frV
  have ta1 := fun (W : World) (x : Value) => (show Sem.run Try.prog (Instr.typeAssert (.iface 94 x) 54 78 true) W = .ok (.tuple #[.agg #[], .bool false]) W by rfl)
  have ta2 := fun (W : World) (x : Value) => (show Sem.run Try.prog (Instr.typeAssert (.iface 94 x) 54 80 true) W = .ok (.tuple #[.agg #[.int .i64 0, .slice none 0 0], .bool false]) W by rfl)
  have ta3 := fun (W : World) (x : Value) => (show Sem.run Try.prog (Instr.typeAssert (.iface 94 x) 54 82 true) W = .ok (.tuple #[.agg #[.int .i64 0], .bool false]) W by rfl)
  go_enter Try.func33, Try.ntmps33
  go_wp2_with fail
  refine (HV.out _ (H.out.below ((Below.refl _ _).alloc (Nat.le_refl _) _))).mono ?_
  rintro e w1 ⟨rfl, hb⟩
  have HB := Lib.hid (((Below.refl w.heap.size w).alloc (Nat.le_refl _) _).trans (hb.mono (by simp)))
  clear hb
  go_wp2_with fail
  go_ret
  exact BoolPost.of (by unfold fel; rw [HF.out]; rfl) HB.out
set_option maxRecDepth 100000 in
set_option maxHeartbeats 1000000 in
theorem ifel_4 (a b c : Int) (d : ByteArray) (rs : List (Int × Int)) (ra : Option Addr) (rc : Nat) (w : World) (H : Hid (Rngs w (.slice ra rs.length rc) rs)) (hl : rs.length ≤ 1048576) (HF : Hid (fok ⟨4, a, b, c, d, rs⟩ = true)) : Calls Try.prog 33 #[frV ⟨4, a, b, c, d, rs⟩ (.slice ra rs.length rc)] w (BoolPost w (fel ⟨4, a, b, c, d, rs⟩)) := by
  have HV : Hid (∀ W, Rngs W (.slice ra rs.length rc) rs → Calls Try.prog 42 #[.agg #[.int .i64 4, .int .i64 a, .int .i64 b, .int .i64 c, .string d, .slice ra rs.length rc]] W (RetPost W (.tuple #[.iface 97 (.agg #[.int .i64 a, .int .i64 b]), .bool true]))) := Lib.hid (fun W h => by
    have := vb_any ⟨4, a, b, c, d, rs⟩ (.slice ra rs.length rc) W h hl
    unfold vbR at this
    rw [HF.out] at this
    exact this)
  unfold frV
  have ta1 := fun (W : World) (x : Value) => (show Sem.run Try.prog (Instr.typeAssert (.iface 97 x) 54 78 true) W = .ok (.tuple #[.agg #[], .bool false]) W by rfl)
  have ta2 := fun (W : World) (x : Value) => (show Sem.run Try.prog (Instr.typeAssert (.iface 97 x) 54 80 true) W = .ok (.tuple #[.agg #[.int .i64 0, .slice none 0 0], .bool false]) W by rfl)
  have ta3 := fun (W : World) (x : Value) => (show Sem.run Try.prog (Instr.typeAssert (.iface 97 x) 54 82 true) W = .ok (.tuple #[.agg #[.int .i64 0], .bool false]) W by rfl)
  go_enter Try.func33, Try.ntmps33
  go_wp2_with fail
  refine (HV.out _ (H.out.below ((Below.refl _ _).alloc (Nat.le_refl _) _))).mono ?_
  rintro e w1 ⟨rfl, hb⟩
  have HB := Lib.hid (((Below.refl w.heap.size w).alloc (Nat.le_refl _) _).trans (hb.mono (by simp)))
  clear hb
  go_wp2_with fail
  go_ret
  exact BoolPost.of (by unfold fel; rw [HF.out]; rfl) HB.out
set_option maxRecDepth 100000 in
set_option maxHeartbeats 1000000 in
theorem ifel_5 (a b c : Int) (d : ByteArray) (rs : List (Int × Int)) (ra : Option Addr) (rc : Nat) (w : World) (H : Hid (Rngs w (.slice ra rs.length rc) rs)) (hl : rs.length ≤ 1048576) (HF : Hid (fok ⟨5, a, b, c, d, rs⟩ = true)) : Calls Try.prog 33 #[frV ⟨5, a, b, c, d, rs⟩ (.slice ra rs.length rc)] w (BoolPost w (fel ⟨5, a, b, c, d, rs⟩)) := by
  have HV : Hid (∀ W, Rngs W (.slice ra rs.length rc) rs → Calls Try.prog 42 #[.agg #[.int .i64 5, .int .i64 a, .int .i64 b, .int .i64 c, .string d, .slice ra rs.length rc]] W (RetPost W (.tuple #[.iface 99 (.agg #[.int .i64 a]), .bool true]))) := Lib.hid (fun W h => by
    have := vb_any ⟨5, a, b, c, d, rs⟩ (.slice ra rs.length rc) W h hl
    unfold vbR at this
    rw [HF.out] at this
    exact this)
  unfold frV
  have ta1 := fun (W : World) (x : Value) => (show Sem.run Try.prog (Instr.typeAssert (.iface 99 x) 54 78 true) W = .ok (.tuple #[.agg #[], .bool false]) W by rfl)
  have ta2 := fun (W : World) (x : Value) => (show Sem.run Try.prog (Instr.typeAssert (.iface 99 x) 54 80 true) W = .ok (.tuple #[.agg #[.int .i64 0, .slice none 0 0], .bool false]) W by rfl)
  have ta3 := fun (W : World) (x : Value) => (show Sem.run Try.prog (Instr.typeAssert (.iface 99 x) 54 82 true) W = .ok (.tuple #[.agg #[.int .i64 0], .bool false]) W by rfl)
  go_enter Try.func33, Try.ntmps33
  go_wp2_with fail
  refine (HV.out _ (H.out.below ((Below.refl _ _).alloc (Nat.le_refl _) _))).mono ?_
  rintro e w1 ⟨rfl, hb⟩
  have HB := Lib.hid (((Below.refl w.heap.size w).alloc (Nat.le_refl _) _).trans (hb.mono (by simp)))
  clear hb
  go_wp2_with fail
  go_ret
  exact BoolPost.of (by unfold fel; rw [HF.out]; rfl) HB.out
set_option maxRecDepth 100000 in
set_option maxHeartbeats 1000000 in
theorem ifel_6 (a b c : Int) (d : ByteArray) (rs : List (Int × Int)) (ra : Option Addr) (rc : Nat) (w : World) (H : Hid (Rngs w (.slice ra rs.length rc) rs)) (hl : rs.length ≤ 1048576) (HF : Hid (fok ⟨6, a, b, c, d, rs⟩ = true)) : Calls Try.prog 33 #[frV ⟨6, a, b, c, d, rs⟩ (.slice ra rs.length rc)] w (BoolPost w (fel ⟨6, a, b, c, d, rs⟩)) := by
  have HV : Hid (∀ W, Rngs W (.slice ra rs.length rc) rs → Calls Try.prog 42 #[.agg #[.int .i64 6, .int .i64 a, .int .i64 b, .int .i64 c, .string d, .slice ra rs.length rc]] W (RetPost W (.tuple #[.iface 100 (.agg #[.int .i64 a]), .bool true]))) := Lib.hid (fun W h => by
    have := vb_any ⟨6, a, b, c, d, rs⟩ (.slice ra rs.length rc) W h hl
    unfold vbR at this
    rw [HF.out] at this
    exact this)
  unfold frV
  have ta1 := fun (W : World) (x : Value) => (show Sem.run Try.prog (Instr.typeAssert (.iface 100 x) 54 78 true) W = .ok (.tuple #[.agg #[], .bool false]) W by rfl)
  have ta2 := fun (W : World) (x : Value) => (show Sem.run Try.prog (Instr.typeAssert (.iface 100 x) 54 80 true) W = .ok (.tuple #[.agg #[.int .i64 0, .slice none 0 0], .bool false]) W by rfl)
  have ta3 := fun (W : World) (x : Value) => (show Sem.run Try.prog (Instr.typeAssert (.iface 100 x) 54 82 true) W = .ok (.tuple #[.agg #[.int .i64 0], .bool false]) W by rfl)
  go_enter Try.func33, Try.ntmps33
  go_wp2_with fail
  refine (HV.out _ (H.out.below ((Below.refl _ _).alloc (Nat.le_refl _) _))).mono ?_
  rintro e w1 ⟨rfl, hb⟩
  have HB := Lib.hid (((Below.refl w.heap.size w).alloc (Nat.le_refl _) _).trans (hb.mono (by simp)))
  clear hb
  go_wp2_with fail
  go_ret
  exact BoolPost.of (by unfold fel; rw [HF.out]; rfl) HB.out
set_option maxRecDepth 100000 in
set_option maxHeartbeats 1000000 in
theorem ifel_7 (a b c : Int) (d : ByteArray) (rs : List (Int × Int)) (ra : Option Addr) (rc : Nat) (w : World) (H : Hid (Rngs w (.slice ra rs.length rc) rs)) (hl : rs.length ≤ 1048576) (HF : Hid (fok ⟨7, a, b, c, d, rs⟩ = true)) : Calls Try.prog 33 #[frV ⟨7, a, b, c, d, rs⟩ (.slice ra rs.length rc)] w (BoolPost w (fel ⟨7, a, b, c, d, rs⟩)) := by
  have HV : Hid (∀ W, Rngs W (.slice ra rs.length rc) rs → Calls Try.prog 42 #[.agg #[.int .i64 7, .int .i64 a, .int .i64 b, .int .i64 c, .string d, .slice ra rs.length rc]] W (RetPost W (.tuple #[.iface 102 (.agg #[.int .i64 a, .int .i64 b]), .bool true]))) := Lib.hid (fun W h => by
    have := vb_any ⟨7, a, b, c, d, rs⟩ (.slice ra rs.length rc) W h hl
    unfold vbR at this
    rw [HF.out] at this
    exact this)
  unfold frV
  have ta1 := fun (W : World) (x : Value) => (show Sem.run Try.prog (Instr.typeAssert (.iface 102 x) 54 78 true) W = .ok (.tuple #[.agg #[], .bool false]) W by rfl)
  have ta2 := fun (W : World) (x : Value) => (show Sem.run Try.prog (Instr.typeAssert (.iface 102 x) 54 80 true) W = .ok (.tuple #[.agg #[.int .i64 0, .slice none 0 0], .bool false]) W by rfl)
  have ta3 := fun (W : World) (x : Value) => (show Sem.run Try.prog (Instr.typeAssert (.iface 102 x) 54 82 true) W = .ok (.tuple #[.agg #[.int .i64 0], .bool false]) W by rfl)
  go_enter Try.func33, Try.ntmps33
  go_wp2_with fail
  refine (HV.out _ (H.out.below ((Below.refl _ _).alloc (Nat.le_refl _) _))).mono ?_
  rintro e w1 ⟨rfl, hb⟩
  have HB := Lib.hid (((Below.refl w.heap.size w).alloc (Nat.le_refl _) _).trans (hb.mono (by simp)))
  clear hb
  go_wp2_with fail
  go_ret
  exact BoolPost.of (by unfold fel; rw [HF.out]; rfl) HB.out
set_option maxRecDepth 100000 in
set_option maxHeartbeats 1000000 in
theorem ifel_8 (a b c : Int) (d : ByteArray) (rs : List (Int × Int)) (ra : Option Addr) (rc : Nat) (w : World) (H : Hid (Rngs w (.slice ra rs.length rc) rs)) (hl : rs.length ≤ 1048576) (HF : Hid (fok ⟨8, a, b, c, d, rs⟩ = true)) : Calls Try.prog 33 #[frV ⟨8, a, b, c, d, rs⟩ (.slice ra rs.length rc)] w (BoolPost w (fel ⟨8, a, b, c, d, rs⟩)) := by
  have HV : Hid (∀ W, Rngs W (.slice ra rs.length rc) rs → Calls Try.prog 42 #[.agg #[.int .i64 8, .int .i64 a, .int .i64 b, .int .i64 c, .string d, .slice ra rs.length rc]] W (RetPost W (.tuple #[.iface 104 (.agg #[.int .i64 a]), .bool true]))) := Lib.hid (fun W h => by
    have := vb_any ⟨8, a, b, c, d, rs⟩ (.slice ra rs.length rc) W h hl
    unfold vbR at this
    rw [HF.out] at this
    exact this)
  unfold frV
  have ta1 := fun (W : World) (x : Value) => (show Sem.run Try.prog (Instr.typeAssert (.iface 104 x) 54 78 true) W = .ok (.tuple #[.agg #[], .bool false]) W by rfl)
  have ta2 := fun (W : World) (x : Value) => (show Sem.run Try.prog (Instr.typeAssert (.iface 104 x) 54 80 true) W = .ok (.tuple #[.agg #[.int .i64 0, .slice none 0 0], .bool false]) W by rfl)
  have ta3 := fun (W : World) (x : Value) => (show Sem.run Try.prog (Instr.typeAssert (.iface 104 x) 54 82 true) W = .ok (.tuple #[.agg #[.int .i64 0], .bool false]) W by rfl)
  go_enter Try.func33, Try.ntmps33
  go_wp2_with fail
  refine (HV.out _ (H.out.below ((Below.refl _ _).alloc (Nat.le_refl _) _))).mono ?_
  rintro e w1 ⟨rfl, hb⟩
  have HB := Lib.hid (((Below.refl w.heap.size w).alloc (Nat.le_refl _) _).trans (hb.mono (by simp)))
  clear hb
  go_wp2_with fail
  go_ret
  exact BoolPost.of (by unfold fel; rw [HF.out]; rfl) HB.out
set_option maxRecDepth 100000 in
set_option maxHeartbeats 1000000 in
theorem ifel_9 (a b c : Int) (d : ByteArray) (rs : List (Int × Int)) (ra : Option Addr) (rc : Nat) (w : World) (H : Hid (Rngs w (.slice ra rs.length rc) rs)) (hl : rs.length ≤ 1048576) (HF : Hid (fok ⟨9, a, b, c, d, rs⟩ = true)) : Calls Try.prog 33 #[frV ⟨9, a, b, c, d, rs⟩ (.slice ra rs.length rc)] w (BoolPost w (fel ⟨9, a, b, c, d, rs⟩)) := by
  have HV : Hid (∀ W, Rngs W (.slice ra rs.length rc) rs → Calls Try.prog 42 #[.agg #[.int .i64 9, .int .i64 a, .int .i64 b, .int .i64 c, .string d, .slice ra rs.length rc]] W (RetPost W (.tuple #[.iface 106 (.agg #[.string d]), .bool true]))) := Lib.hid (fun W h => by
    have := vb_any ⟨9, a, b, c, d, rs⟩ (.slice ra rs.length rc) W h hl
    unfold vbR at this
    rw [HF.out] at this
    exact this)
  unfold frV
  have ta1 := fun (W : World) (x : Value) => (show Sem.run Try.prog (Instr.typeAssert (.iface 106 x) 54 78 true) W = .ok (.tuple #[.agg #[], .bool false]) W by rfl)
  have ta2 := fun (W : World) (x : Value) => (show Sem.run Try.prog (Instr.typeAssert (.iface 106 x) 54 80 true) W = .ok (.tuple #[.agg #[.int .i64 0, .slice none 0 0], .bool false]) W by rfl)
  have ta3 := fun (W : World) (x : Value) => (show Sem.run Try.prog (Instr.typeAssert (.iface 106 x) 54 82 true) W = .ok (.tuple #[.agg #[.int .i64 0], .bool false]) W by rfl)
  go_enter Try.func33, Try.ntmps33
  go_wp2_with fail
  refine (HV.out _ (H.out.below ((Below.refl _ _).alloc (Nat.le_refl _) _))).mono ?_
  rintro e w1 ⟨rfl, hb⟩
  have HB := Lib.hid (((Below.refl w.heap.size w).alloc (Nat.le_refl _) _).trans (hb.mono (by simp)))
  clear hb
  go_wp2_with fail
  go_ret
  exact BoolPost.of (by unfold fel; rw [HF.out]; rfl) HB.out
set_option maxRecDepth 100000 in
set_option maxHeartbeats 1000000 in
theorem ifel_10 (a b c : Int) (d : ByteArray) (rs : List (Int × Int)) (ra : Option Addr) (rc : Nat) (w : World) (H : Hid (Rngs w (.slice ra rs.length rc) rs)) (hl : rs.length ≤ 1048576) (HF : Hid (fok ⟨10, a, b, c, d, rs⟩ = true)) : Calls Try.prog 33 #[frV ⟨10, a, b, c, d, rs⟩ (.slice ra rs.length rc)] w (BoolPost w (fel ⟨10, a, b, c, d, rs⟩)) := by
  have HV : Hid (∀ W, Rngs W (.slice ra rs.length rc) rs → Calls Try.prog 42 #[.agg #[.int .i64 10, .int .i64 a, .int .i64 b, .int .i64 c, .string d, .slice ra rs.length rc]] W (RetPost W (.tuple #[.iface 82 (.agg #[.int .i64 a]), .bool true]))) := Lib.hid (fun W h => by
    have := vb_any ⟨10, a, b, c, d, rs⟩ (.slice ra rs.length rc) W h hl
    unfold vbR at this
    rw [HF.out] at this
    exact this)
  unfold frV
  have ta1 := fun (W : World) (x : Value) => (show Sem.run Try.prog (Instr.typeAssert (.iface 82 x) 54 78 true) W = .ok (.tuple #[.agg #[], .bool false]) W by rfl)
  have ta2 := fun (W : World) (x : Value) => (show Sem.run Try.prog (Instr.typeAssert (.iface 82 x) 54 80 true) W = .ok (.tuple #[.agg #[.int .i64 0, .slice none 0 0], .bool false]) W by rfl)
  have ta3 := fun (W : World) (x : Value) => (show Sem.run Try.prog (Instr.typeAssert (.iface 82 x) 54 82 true) W = .ok (.tuple #[x, .bool true]) W by rfl)
  go_enter Try.func33, Try.ntmps33
  go_wp2_with fail
  refine (HV.out _ (H.out.below ((Below.refl _ _).alloc (Nat.le_refl _) _))).mono ?_
  rintro e w1 ⟨rfl, hb⟩
  have HB := Lib.hid (((Below.refl w.heap.size w).alloc (Nat.le_refl _) _).trans (hb.mono (by simp)))
  clear hb
  go_wp2_with fail
  go_ret
  exact BoolPost.of (by unfold fel; rw [HF.out]; rfl) HB.out
set_option maxRecDepth 100000 in
set_option maxHeartbeats 1000000 in
theorem ifel_no (f : Fr) (v : Value) (w : World) (H : Hid (Rngs w v f.rs)) (hl : f.rs.length ≤ 1048576) (HF : Hid (fok f = false)) : Calls Try.prog 33 #[frV f v] w (BoolPost w (fel f)) := by
  have HV := Lib.hid (fun W h => vb_any f v W h hl)
  unfold vbR frV bodyV at HV
  unfold frV
  rw [HF.out] at HV
  go_enter Try.func33, Try.ntmps33
  go_wp2_with fail
  refine (HV.out _ (H.out.below ((Below.refl _ _).alloc (Nat.le_refl _) _))).mono ?_
  rintro e w1 ⟨rfl, hb⟩
  have HB := Lib.hid (((Below.refl w.heap.size w).alloc (Nat.le_refl _) _).trans (hb.mono (by simp)))
  clear hb
  go_wp2_with fail
  go_ret
  exact BoolPost.of (by unfold fel; rw [HF.out]; rfl) HB.out
theorem ifel_any (f : Fr) (v : Value) (w : World) (h : Rngs w v f.rs) (hl : f.rs.length ≤ 1048576) (hd : f.d.size ≤ 2097152) : Calls Try.prog 33 #[frV f v] w (BoolPost w (fel f)) := by
  have H := Lib.hid h
  cases hf : fok f
  · exact ifel_no f v w H hl (Lib.hid hf)
  · obtain ⟨ra, rc, rfl, hc⟩ := h
    obtain ⟨k, a, b, c, d, rs⟩ := f
    have hk := fok_k hf
    simp only at hk hl H
    have : k = 0 ∨ k = 1 ∨ k = 2 ∨ k = 3 ∨ k = 4 ∨ k = 5 ∨ k = 6 ∨ k = 7 ∨ k = 8 ∨ k = 9 ∨ k = 10 := by omega
    rcases this with rfl | rfl | rfl | rfl | rfl | rfl | rfl | rfl | rfl | rfl | rfl
    · exact ifel_0 a b c d rs ra rc w H hl (Lib.hid hf)
    · exact ifel_1 a b c d rs ra rc w H hl (Lib.hid hf)
    · exact ifel_2 a b c d rs ra rc w H hl (Lib.hid hf)
    · exact ifel_3 a b c d rs ra rc w H hl (Lib.hid hf)
    · exact ifel_4 a b c d rs ra rc w H hl (Lib.hid hf)
    · exact ifel_5 a b c d rs ra rc w H hl (Lib.hid hf)
    · exact ifel_6 a b c d rs ra rc w H hl (Lib.hid hf)
    · exact ifel_7 a b c d rs ra rc w H hl (Lib.hid hf)
    · exact ifel_8 a b c d rs ra rc w H hl (Lib.hid hf)
    · exact ifel_9 a b c d rs ra rc w H hl (Lib.hid hf)
    · exact ifel_10 a b c d rs ra rc w H hl (Lib.hid hf)

end Go.Proofs.Ytifohfclgonhfaa
