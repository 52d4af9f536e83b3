/- The program's validBody. -/
import Derived.Test.YthflokonihegbaaIMeth
import Derived.Test.YthflokonihegbaaISame
import Derived.Test.YthflokonihegbaaSEnc
import Derived.Deep.RegionHeld3
namespace Go.Proofs.Ythflokonihegbaa
open Go.RowKit
set_option linter.unusedVariables false
set_option linter.unusedSimpArgs false

/-- A body: its two methods and what they answer. -/
def Bod (w0 : World) (T : TypeId) (x : Value) (g : Fr) (u : Value) (q : Bool) : Prop :=
  ∃ ff fi : Nat, (∀ n W, Sem.run Try.prog (method (n + 1) T x "loop.example/multipathtransport/impl.frame") W = .ok (ff, x) W) ∧ (∀ n W, Sem.run Try.prog (method (n + 1) T x "loop.example/multipathtransport/impl.inRange") W = .ok (fi, x) W)
    ∧ (∀ r W, Sem.run Try.prog (callFunc ff r) W = .ok (.enter ff r) W) ∧ (∀ r W, Sem.run Try.prog (callFunc fi r) W = .ok (.enter fi r) W) ∧ (∀ W, Calls Try.prog ff #[x] W (RetPost W (frV g u))) ∧ (∀ W, Below w0.heap.size w0 W → Calls Try.prog fi #[x] W (BoolPost W q))

set_option maxRecDepth 100000 in
theorem bod_0 (a b c : Int) (d : ByteArray) (rs : List (Int × Int)) (ra : Option Addr) (rc : Nat) (w0 : World) (HR : Hid (Rngs w0 (.slice ra rs.length rc) rs)) (hl : rs.length ≤ 1048576) :
    Bod w0 (bodyT 0) (bodyX 0 a b c d (.slice ra rs.length rc)) (fnorm ⟨0, a, b, c, d, rs⟩) (vnorm 0 (.slice ra rs.length rc)) (finr ⟨0, a, b, c, d, rs⟩) :=
  ⟨110, 111, fun n W => by rfl, fun n W => by rfl, fun r W => by rfl, fun r W => by rfl, fun W => frame_0 W, fun W hW => inr_0 W⟩
set_option maxRecDepth 100000 in
theorem bod_1 (a b c : Int) (d : ByteArray) (rs : List (Int × Int)) (ra : Option Addr) (rc : Nat) (w0 : World) (HR : Hid (Rngs w0 (.slice ra rs.length rc) rs)) (hl : rs.length ≤ 1048576) :
    Bod w0 (bodyT 1) (bodyX 1 a b c d (.slice ra rs.length rc)) (fnorm ⟨1, a, b, c, d, rs⟩) (vnorm 1 (.slice ra rs.length rc)) (finr ⟨1, a, b, c, d, rs⟩) :=
  ⟨131, 132, fun n W => by rfl, fun n W => by rfl, fun r W => by rfl, fun r W => by rfl, fun W => frame_1 W, fun W hW => inr_1 W⟩
set_option maxRecDepth 100000 in
theorem bod_2 (a b c : Int) (d : ByteArray) (rs : List (Int × Int)) (ra : Option Addr) (rc : Nat) (w0 : World) (HR : Hid (Rngs w0 (.slice ra rs.length rc) rs)) (hl : rs.length ≤ 1048576) :
    Bod w0 (bodyT 2) (bodyX 2 a b c d (.slice ra rs.length rc)) (fnorm ⟨2, a, b, c, d, rs⟩) (vnorm 2 (.slice ra rs.length rc)) (finr ⟨2, a, b, c, d, rs⟩) :=
  ⟨112, 113, fun n W => by rfl, fun n W => by rfl, fun r W => by rfl, fun r W => by rfl, fun W => frame_2 a ra rs.length rc W, fun W hW => inr_2 a ra rc rs W (Lib.hid (HR.out.below hW)) hl⟩
set_option maxRecDepth 100000 in
theorem bod_3 (a b c : Int) (d : ByteArray) (rs : List (Int × Int)) (ra : Option Addr) (rc : Nat) (w0 : World) (HR : Hid (Rngs w0 (.slice ra rs.length rc) rs)) (hl : rs.length ≤ 1048576) :
    Bod w0 (bodyT 3) (bodyX 3 a b c d (.slice ra rs.length rc)) (fnorm ⟨3, a, b, c, d, rs⟩) (vnorm 3 (.slice ra rs.length rc)) (finr ⟨3, a, b, c, d, rs⟩) :=
  ⟨117, 118, fun n W => by rfl, fun n W => by rfl, fun r W => by rfl, fun r W => by rfl, fun W => frame_3 a b c d W, fun W hW => inr_3 a b c d W⟩
set_option maxRecDepth 100000 in
theorem bod_4 (a b c : Int) (d : ByteArray) (rs : List (Int × Int)) (ra : Option Addr) (rc : Nat) (w0 : World) (HR : Hid (Rngs w0 (.slice ra rs.length rc) rs)) (hl : rs.length ≤ 1048576) :
    Bod w0 (bodyT 4) (bodyX 4 a b c d (.slice ra rs.length rc)) (fnorm ⟨4, a, b, c, d, rs⟩) (vnorm 4 (.slice ra rs.length rc)) (finr ⟨4, a, b, c, d, rs⟩) :=
  ⟨119, 120, fun n W => by rfl, fun n W => by rfl, fun r W => by rfl, fun r W => by rfl, fun W => frame_4 a b W, fun W hW => inr_4 a b W⟩
set_option maxRecDepth 100000 in
theorem bod_5 (a b c : Int) (d : ByteArray) (rs : List (Int × Int)) (ra : Option Addr) (rc : Nat) (w0 : World) (HR : Hid (Rngs w0 (.slice ra rs.length rc) rs)) (hl : rs.length ≤ 1048576) :
    Bod w0 (bodyT 5) (bodyX 5 a b c d (.slice ra rs.length rc)) (fnorm ⟨5, a, b, c, d, rs⟩) (vnorm 5 (.slice ra rs.length rc)) (finr ⟨5, a, b, c, d, rs⟩) :=
  ⟨121, 122, fun n W => by rfl, fun n W => by rfl, fun r W => by rfl, fun r W => by rfl, fun W => frame_5 a W, fun W hW => inr_5 a W⟩
set_option maxRecDepth 100000 in
theorem bod_6 (a b c : Int) (d : ByteArray) (rs : List (Int × Int)) (ra : Option Addr) (rc : Nat) (w0 : World) (HR : Hid (Rngs w0 (.slice ra rs.length rc) rs)) (hl : rs.length ≤ 1048576) :
    Bod w0 (bodyT 6) (bodyX 6 a b c d (.slice ra rs.length rc)) (fnorm ⟨6, a, b, c, d, rs⟩) (vnorm 6 (.slice ra rs.length rc)) (finr ⟨6, a, b, c, d, rs⟩) :=
  ⟨123, 124, fun n W => by rfl, fun n W => by rfl, fun r W => by rfl, fun r W => by rfl, fun W => frame_6 a W, fun W hW => inr_6 a W⟩
set_option maxRecDepth 100000 in
theorem bod_7 (a b c : Int) (d : ByteArray) (rs : List (Int × Int)) (ra : Option Addr) (rc : Nat) (w0 : World) (HR : Hid (Rngs w0 (.slice ra rs.length rc) rs)) (hl : rs.length ≤ 1048576) :
    Bod w0 (bodyT 7) (bodyX 7 a b c d (.slice ra rs.length rc)) (fnorm ⟨7, a, b, c, d, rs⟩) (vnorm 7 (.slice ra rs.length rc)) (finr ⟨7, a, b, c, d, rs⟩) :=
  ⟨125, 126, fun n W => by rfl, fun n W => by rfl, fun r W => by rfl, fun r W => by rfl, fun W => frame_7 a b W, fun W hW => inr_7 a b W⟩
set_option maxRecDepth 100000 in
theorem bod_8 (a b c : Int) (d : ByteArray) (rs : List (Int × Int)) (ra : Option Addr) (rc : Nat) (w0 : World) (HR : Hid (Rngs w0 (.slice ra rs.length rc) rs)) (hl : rs.length ≤ 1048576) :
    Bod w0 (bodyT 8) (bodyX 8 a b c d (.slice ra rs.length rc)) (fnorm ⟨8, a, b, c, d, rs⟩) (vnorm 8 (.slice ra rs.length rc)) (finr ⟨8, a, b, c, d, rs⟩) :=
  ⟨127, 128, fun n W => by rfl, fun n W => by rfl, fun r W => by rfl, fun r W => by rfl, fun W => frame_8 a W, fun W hW => inr_8 a W⟩
set_option maxRecDepth 100000 in
theorem bod_9 (a b c : Int) (d : ByteArray) (rs : List (Int × Int)) (ra : Option Addr) (rc : Nat) (w0 : World) (HR : Hid (Rngs w0 (.slice ra rs.length rc) rs)) (hl : rs.length ≤ 1048576) :
    Bod w0 (bodyT 9) (bodyX 9 a b c d (.slice ra rs.length rc)) (fnorm ⟨9, a, b, c, d, rs⟩) (vnorm 9 (.slice ra rs.length rc)) (finr ⟨9, a, b, c, d, rs⟩) :=
  ⟨129, 130, fun n W => by rfl, fun n W => by rfl, fun r W => by rfl, fun r W => by rfl, fun W => frame_9 d W, fun W hW => inr_9 d W⟩
set_option maxRecDepth 100000 in
theorem bod_10 (a b c : Int) (d : ByteArray) (rs : List (Int × Int)) (ra : Option Addr) (rc : Nat) (w0 : World) (HR : Hid (Rngs w0 (.slice ra rs.length rc) rs)) (hl : rs.length ≤ 1048576) :
    Bod w0 (bodyT 10) (bodyX 10 a b c d (.slice ra rs.length rc)) (fnorm ⟨10, a, b, c, d, rs⟩) (vnorm 10 (.slice ra rs.length rc)) (finr ⟨10, a, b, c, d, rs⟩) :=
  ⟨115, 116, fun n W => by rfl, fun n W => by rfl, fun r W => by rfl, fun r W => by rfl, fun W => frame_10 a W, fun W hW => inr_10 a W⟩
theorem bod_any (f : Fr) (ra : Option Addr) (rc : Nat) (w0 : World) (HR : Hid (Rngs w0 (.slice ra f.rs.length rc) f.rs)) (hl : f.rs.length ≤ 1048576) (h : 0 ≤ f.k ∧ f.k ≤ 10) :
    Bod w0 (bodyT f.k) (bodyX f.k f.a f.b f.c f.d (.slice ra f.rs.length rc)) (fnorm f) (vnorm f.k (.slice ra f.rs.length rc)) (finr f) := by
  obtain ⟨k, a, b, c, d, rs⟩ := f
  simp only at HR hl h ⊢
  have : k = 0 ∨ k = 1 ∨ k = 2 ∨ k = 3 ∨ k = 4 ∨ k = 5 ∨ k = 6 ∨ k = 7 ∨ k = 8 ∨ k = 9 ∨ k = 10 := by omega
  rcases this with rfl | rfl | rfl | rfl | rfl | rfl | rfl | rfl | rfl | rfl | rfl
  · exact bod_0 a b c d rs ra rc w0 HR hl
  · exact bod_1 a b c d rs ra rc w0 HR hl
  · exact bod_2 a b c d rs ra rc w0 HR hl
  · exact bod_3 a b c d rs ra rc w0 HR hl
  · exact bod_4 a b c d rs ra rc w0 HR hl
  · exact bod_5 a b c d rs ra rc w0 HR hl
  · exact bod_6 a b c d rs ra rc w0 HR hl
  · exact bod_7 a b c d rs ra rc w0 HR hl
  · exact bod_8 a b c d rs ra rc w0 HR hl
  · exact bod_9 a b c d rs ra rc w0 HR hl
  · exact bod_10 a b c d rs ra rc w0 HR hl

theorem cell6 {w' w'' : World} {b : Nat} {v0 v1 v2 v3 v4 v5 : Value} (hlt : b < w'.heap.size) (hb : Below w'.heap.size w' w'') (h : w'.cell? ⟨b, 0, none⟩ = some v0 ∧ w'.cell? ⟨b, 1, none⟩ = some v1 ∧ w'.cell? ⟨b, 2, none⟩ = some v2 ∧ w'.cell? ⟨b, 3, none⟩ = some v3 ∧ w'.cell? ⟨b, 4, none⟩ = some v4 ∧ w'.cell? ⟨b, 5, none⟩ = some v5) :
    w''.cell? ⟨b, 0, none⟩ = some v0 ∧ w''.cell? ⟨b, 1, none⟩ = some v1 ∧ w''.cell? ⟨b, 2, none⟩ = some v2 ∧ w''.cell? ⟨b, 3, none⟩ = some v3 ∧ w''.cell? ⟨b, 4, none⟩ = some v4 ∧ w''.cell? ⟨b, 5, none⟩ = some v5 :=
  ⟨(hb.cell (p := ⟨b, 0, none⟩) hlt).trans h.1, (hb.cell (p := ⟨b, 1, none⟩) hlt).trans h.2.1, (hb.cell (p := ⟨b, 2, none⟩) hlt).trans h.2.2.1, (hb.cell (p := ⟨b, 3, none⟩) hlt).trans h.2.2.2.1, (hb.cell (p := ⟨b, 4, none⟩) hlt).trans h.2.2.2.2.1, (hb.cell (p := ⟨b, 5, none⟩) hlt).trans h.2.2.2.2.2⟩
theorem vnorm_rngs {w : World} {f : Fr} {v : Value} (h : Rngs w v f.rs) : Rngs w (vnorm f.k v) (fnorm f).rs := by
  unfold vnorm fnorm
  by_cases h2 : f.k = 2
  · rw [if_pos h2]; simp only [if_pos h2]; exact h
  · rw [if_neg h2]; simp only [if_neg h2]; exact ⟨none, 0, rfl, fun h => absurd rfl h⟩
theorem fnorm_len (f : Fr) : (fnorm f).rs.length ≤ f.rs.length := by
  unfold fnorm; simp only; split <;> simp

set_option maxRecDepth 100000 in
set_option maxHeartbeats 2000000 in
theorem vb_t (k a b c : Int) (d : ByteArray) (rs : List (Int × Int)) (ra : Option Addr) (rc : Nat) (w : World) (T : TypeId) (x : Value) (HR : Hid (Rngs w (.slice ra rs.length rc) rs)) (hl : rs.length ≤ 1048576)
   (H1 : Hid (bodyR ⟨k, a, b, c, d, rs⟩ (.slice ra rs.length rc) = .tuple #[.iface T x, .bool true])) (g : Fr) (u : Value) (HU : Hid (Rngs w u g.rs)) (hgl : g.rs.length ≤ 1048576) (HB : Hid (Bod w T x g u true)) (q : Bool) (HQ : Hid (frEq g ⟨k, a, b, c, d, rs⟩ = q)) (R : Value) (HV : Hid ((if q then Value.tuple #[.iface T x, .bool true] else Value.tuple #[.nilIface, .bool false]) = R)) :
    Calls Try.prog 42 #[frV ⟨k, a, b, c, d, rs⟩ (.slice ra rs.length rc)] w (RetPost w R) := by
  have HO := Lib.hid (fun W => bodyOf_any ⟨k, a, b, c, d, rs⟩ ra rs.length rc W)
  have HS := Lib.hid (fun W v h => isame_any g ⟨k, a, b, c, d, rs⟩ u v W h)
  unfold frV at HO HS ⊢
  rw [H1.out] at HO
  rw [HQ.out] at HS
  obtain ⟨ff, fi, m1, m2, n1, n2, c1, c2⟩ := HB.out
  unfold frV at c1
  have C1 := Lib.hid c1
  have C2 := Lib.hid c2
  clear c1 c2
  go_enter Try.func42, Try.ntmps42
  go_wp2_with fail
  refine (HO.out _).mono ?_
  rintro e w1 ⟨rfl, hb1⟩
  have f0 : w1.cell? ⟨w.heap.size, 0, none⟩ = some (.int .i64 k) ∧ w1.cell? ⟨w.heap.size, 1, none⟩ = some (.int .i64 a) ∧ w1.cell? ⟨w.heap.size, 2, none⟩ = some (.int .i64 b) ∧ w1.cell? ⟨w.heap.size, 3, none⟩ = some (.int .i64 c) ∧ w1.cell? ⟨w.heap.size, 4, none⟩ = some (.string d) ∧ w1.cell? ⟨w.heap.size, 5, none⟩ = some (.slice ra rs.length rc) := by
    have hc := fr_cells (vs := [.int .i64 k, .int .i64 a, .int .i64 b, .int .i64 c, .string d, .slice ra rs.length rc]) hb1
    exact ⟨hc 0, hc 1, hc 2, hc 3, hc 4, hc 5⟩
  have B1 := Lib.hid ((((Below.refl w.heap.size w).alloc (Nat.le_refl _) _).trans (hb1.mono (by simp))).drew)
  have HLT : Hid (w.heap.size < w1.drew.heap.size) := Lib.hid (by have := hb1.size; simp at this ⊢; omega)
  clear hb1
  go_wp2_with fail
  obtain ⟨p0, p1, p2, p3, p4, p5⟩ := f0
  have d6 : w1.drew.cell? ⟨w.heap.size, 0, none⟩ = some (.int .i64 k) ∧ w1.drew.cell? ⟨w.heap.size, 1, none⟩ = some (.int .i64 a) ∧ w1.drew.cell? ⟨w.heap.size, 2, none⟩ = some (.int .i64 b) ∧ w1.drew.cell? ⟨w.heap.size, 3, none⟩ = some (.int .i64 c) ∧ w1.drew.cell? ⟨w.heap.size, 4, none⟩ = some (.string d) ∧ w1.drew.cell? ⟨w.heap.size, 5, none⟩ = some (.slice ra rs.length rc) := ⟨p0, p1, p2, p3, p4, p5⟩
  have D6 := Lib.hid d6
  go_region_held3 (fun w' => w'.cell? ⟨w.heap.size, 0, none⟩ = some (.int .i64 k) ∧ w'.cell? ⟨w.heap.size, 1, none⟩ = some (.int .i64 a) ∧ w'.cell? ⟨w.heap.size, 2, none⟩ = some (.int .i64 b) ∧ w'.cell? ⟨w.heap.size, 3, none⟩ = some (.int .i64 c) ∧ w'.cell? ⟨w.heap.size, 4, none⟩ = some (.string d) ∧ w'.cell? ⟨w.heap.size, 5, none⟩ = some (.slice ra rs.length rc))
    (first | assumption | exact ⟨p0, p1, p2, p3, p4, p5⟩ | exact d6 | exact k2 | exact k3 | exact k4)
    (first
      | (go_at_call 61; refine (HS.out _ _ (HU.out.below (B1.out.trans ((hb2.trans (hb3.mono hb2.size)).mono B1.out.size))) (HR.out.below (B1.out.trans ((hb2.trans (hb3.mono hb2.size)).mono B1.out.size))) hgl hl).mono ?_; rintro e w4 ⟨rfl, hb4⟩; have k4 : w4.cell? ⟨w.heap.size, 0, none⟩ = some (.int .i64 k) ∧ w4.cell? ⟨w.heap.size, 1, none⟩ = some (.int .i64 a) ∧ w4.cell? ⟨w.heap.size, 2, none⟩ = some (.int .i64 b) ∧ w4.cell? ⟨w.heap.size, 3, none⟩ = some (.int .i64 c) ∧ w4.cell? ⟨w.heap.size, 4, none⟩ = some (.string d) ∧ w4.cell? ⟨w.heap.size, 5, none⟩ = some (.slice ra rs.length rc) := cell6 (Nat.lt_of_lt_of_le (Nat.lt_of_lt_of_le HLT.out hb2.size) hb3.size) hb4 k3)
      | ((with_reducible refine (C1.out _).mono ?_); rintro e w3 ⟨rfl, hb3⟩; have k3 : w3.cell? ⟨w.heap.size, 0, none⟩ = some (.int .i64 k) ∧ w3.cell? ⟨w.heap.size, 1, none⟩ = some (.int .i64 a) ∧ w3.cell? ⟨w.heap.size, 2, none⟩ = some (.int .i64 b) ∧ w3.cell? ⟨w.heap.size, 3, none⟩ = some (.int .i64 c) ∧ w3.cell? ⟨w.heap.size, 4, none⟩ = some (.string d) ∧ w3.cell? ⟨w.heap.size, 5, none⟩ = some (.slice ra rs.length rc) := cell6 (Nat.lt_of_lt_of_le HLT.out hb2.size) hb3 k2)
      | ((with_reducible refine (C2.out _ B1.out).mono ?_); rintro e w2 ⟨rfl, hb2⟩; have k2 : w2.cell? ⟨w.heap.size, 0, none⟩ = some (.int .i64 k) ∧ w2.cell? ⟨w.heap.size, 1, none⟩ = some (.int .i64 a) ∧ w2.cell? ⟨w.heap.size, 2, none⟩ = some (.int .i64 b) ∧ w2.cell? ⟨w.heap.size, 3, none⟩ = some (.int .i64 c) ∧ w2.cell? ⟨w.heap.size, 4, none⟩ = some (.string d) ∧ w2.cell? ⟨w.heap.size, 5, none⟩ = some (.slice ra rs.length rc) := cell6 HLT.out hb2 D6.out))
  have HB4 := Lib.hid (B1.out.trans ((hb2.trans ((hb3.trans (hb4.mono hb3.size)).mono hb2.size)).mono B1.out.size))
  clear hb2 hb3 hb4 k2 k3 k4 d6
  cases q
  · go_wp2_with fail
    go_ret2
    exact ⟨by rw [← HV.out]; rfl, HB4.out⟩
  · go_wp2_with fail
    go_ret2
    exact ⟨by rw [← HV.out]; rfl, HB4.out⟩

set_option maxRecDepth 100000 in
set_option maxHeartbeats 2000000 in
theorem vb_f (k a b c : Int) (d : ByteArray) (rs : List (Int × Int)) (ra : Option Addr) (rc : Nat) (w : World) (T : TypeId) (x : Value) (HR : Hid (Rngs w (.slice ra rs.length rc) rs)) (hl : rs.length ≤ 1048576)
   (H1 : Hid (bodyR ⟨k, a, b, c, d, rs⟩ (.slice ra rs.length rc) = .tuple #[.iface T x, .bool true])) (g : Fr) (u : Value) (HB : Hid (Bod w T x g u false)) :
    Calls Try.prog 42 #[frV ⟨k, a, b, c, d, rs⟩ (.slice ra rs.length rc)] w (RetPost w (.tuple #[.nilIface, .bool false])) := by
  have HO := Lib.hid (fun W => bodyOf_any ⟨k, a, b, c, d, rs⟩ ra rs.length rc W)
  unfold frV at HO ⊢
  rw [H1.out] at HO
  obtain ⟨ff, fi, m1, m2, n1, n2, c1, c2⟩ := HB.out
  unfold frV at c1
  have C1 := Lib.hid c1
  have C2 := Lib.hid c2
  clear c1 c2
  go_enter Try.func42, Try.ntmps42
  go_wp2_with fail
  refine (HO.out _).mono ?_
  rintro e w1 ⟨rfl, hb1⟩
  have f0 : w1.cell? ⟨w.heap.size, 0, none⟩ = some (.int .i64 k) ∧ w1.cell? ⟨w.heap.size, 1, none⟩ = some (.int .i64 a) ∧ w1.cell? ⟨w.heap.size, 2, none⟩ = some (.int .i64 b) ∧ w1.cell? ⟨w.heap.size, 3, none⟩ = some (.int .i64 c) ∧ w1.cell? ⟨w.heap.size, 4, none⟩ = some (.string d) ∧ w1.cell? ⟨w.heap.size, 5, none⟩ = some (.slice ra rs.length rc) := by
    have hc := fr_cells (vs := [.int .i64 k, .int .i64 a, .int .i64 b, .int .i64 c, .string d, .slice ra rs.length rc]) hb1
    exact ⟨hc 0, hc 1, hc 2, hc 3, hc 4, hc 5⟩
  have B1 := Lib.hid ((((Below.refl w.heap.size w).alloc (Nat.le_refl _) _).trans (hb1.mono (by simp))).drew)
  have HLT : Hid (w.heap.size < w1.drew.heap.size) := Lib.hid (by have := hb1.size; simp at this ⊢; omega)
  clear hb1
  go_wp2_with fail
  obtain ⟨p0, p1, p2, p3, p4, p5⟩ := f0
  have d6 : w1.drew.cell? ⟨w.heap.size, 0, none⟩ = some (.int .i64 k) ∧ w1.drew.cell? ⟨w.heap.size, 1, none⟩ = some (.int .i64 a) ∧ w1.drew.cell? ⟨w.heap.size, 2, none⟩ = some (.int .i64 b) ∧ w1.drew.cell? ⟨w.heap.size, 3, none⟩ = some (.int .i64 c) ∧ w1.drew.cell? ⟨w.heap.size, 4, none⟩ = some (.string d) ∧ w1.drew.cell? ⟨w.heap.size, 5, none⟩ = some (.slice ra rs.length rc) := ⟨p0, p1, p2, p3, p4, p5⟩
  have D6 := Lib.hid d6
  first
    | (go_region_with (((with_reducible refine (C2.out _ B1.out).mono ?_); rintro e w2 ⟨rfl, hb2⟩)))
    | fail
  all_goals
    have HB4 := Lib.hid (B1.out.trans (hb2.mono B1.out.size))
    clear hb2 d6
    go_wp2_with fail
    go_ret2
    exact ⟨rfl, HB4.out⟩
set_option maxRecDepth 100000 in
set_option maxHeartbeats 2000000 in
theorem vb_n (f : Fr) (ra : Option Addr) (rc : Nat) (w : World) (H1 : Hid (bodyR f (.slice ra f.rs.length rc) = .tuple #[.nilIface, .bool false])) :
    Calls Try.prog 42 #[frV f (.slice ra f.rs.length rc)] w (RetPost w (.tuple #[.nilIface, .bool false])) := by
  have HO := Lib.hid (fun W => bodyOf_any f ra f.rs.length rc W)
  unfold frV at HO ⊢
  rw [H1.out] at HO
  go_enter Try.func42, Try.ntmps42
  go_wp2_with fail
  refine (HO.out _).mono ?_
  rintro e w1 ⟨rfl, hb1⟩
  have B1 := Lib.hid ((((Below.refl w.heap.size w).alloc (Nat.le_refl _) _).trans (hb1.mono (by simp))))
  clear hb1
  go_wp2_with fail
  go_quiet (fail)
  go_wp2_with fail
  go_ret2
  exact ⟨rfl, below_drewN' B1.out _⟩

theorem fok_eq (f : Fr) : fok f = (decide (0 ≤ f.k ∧ f.k ≤ 10) && (finr f && frEq (fnorm f) f)) := by
  obtain ⟨k, a, b, c, d, rs⟩ := f
  have e1 : decide (ByteArray.mk #[] = d) = decide (d.size = 0) := decide_eq_decide.2 ⟨fun h => by rw [← h]; rfl, fun h => (bytes_zero h).symm⟩
  have e2 : (([] : List (Int × Int)) == rs) = decide (rs.length = 0) := by cases rs <;> rfl
  by_cases h : 0 ≤ k ∧ k ≤ 10
  · unfold fok fun1 fun2 ffld finr fnorm frEq fnum
    have : k = 0 ∨ k = 1 ∨ k = 2 ∨ k = 3 ∨ k = 4 ∨ k = 5 ∨ k = 6 ∨ k = 7 ∨ k = 8 ∨ k = 9 ∨ k = 10 := by omega
    rcases this with rfl | rfl | rfl | rfl | rfl | rfl | rfl | rfl | rfl | rfl | rfl <;> simp only [reduceIte, Int.reduceEq, or_self, or_false, false_or, or_true, true_or, e1, e2, beq_self_eq_true, decide_true, ne_eq, not_false_eq_true, not_true_eq_false] <;> clear e1 e2 h <;> generalize d.size = n <;> generalize rvalid rs = r <;> generalize rs.length = m <;> cases r <;> rw [Bool.eq_iff_iff] <;> simp only [Bool.and_eq_true, decide_eq_true_eq, beq_iff_eq, Bool.false_eq_true, and_false, false_and, true_implies, false_implies, Nat.reduceLT, and_true, true_and] <;> omega
  · rw [decide_eq_false h, Bool.false_and]
    cases hf : fok ⟨k, a, b, c, d, rs⟩
    · rfl
    · exact absurd (fok_k hf) h
def vbR (f : Fr) (v : Value) : Value := if fok f then .tuple #[bodyV f v, .bool true] else .tuple #[.nilIface, .bool false]
theorem vb_any (f : Fr) (v : Value) (w : World) (h : Rngs w v f.rs) (hl : f.rs.length ≤ 1048576) :
    Calls Try.prog 42 #[frV f v] w (RetPost w (vbR f v)) := by
  obtain ⟨ra, rc, rfl, hc⟩ := h
  have HR : Hid (Rngs w (.slice ra f.rs.length rc) f.rs) := Lib.hid ⟨ra, rc, rfl, hc⟩
  have hq := fok_eq f
  by_cases h : 0 ≤ f.k ∧ f.k ≤ 10
  · have H1 : Hid (bodyR f (.slice ra f.rs.length rc) = .tuple #[bodyV f (.slice ra f.rs.length rc), .bool true]) := Lib.hid (bodyR_yes h)
    have hb := bod_any f ra rc w HR hl h
    have hg := fnorm_len f
    cases hi : finr f
    · rw [hi] at hb
      have hf : fok f = false := by rw [hq, hi]; simp
      have := vb_f f.k f.a f.b f.c f.d f.rs ra rc w _ _ HR hl H1 _ _ (Lib.hid hb)
      unfold vbR; rw [hf]; exact this
    · rw [hi] at hb
      have := vb_t f.k f.a f.b f.c f.d f.rs ra rc w _ _ HR hl H1 _ _ (Lib.hid (vnorm_rngs HR.out)) (by omega) (Lib.hid hb) (fok f) (Lib.hid (by rw [hq, hi, decide_eq_true h]; simp)) (vbR f (.slice ra f.rs.length rc)) (Lib.hid (by unfold vbR bodyV; rfl))
      exact this
  · have hf : fok f = false := by rw [hq, decide_eq_false h]; rfl
    have := vb_n f ra rc w (Lib.hid (bodyR_no h))
    unfold vbR; rw [hf]; exact this

end Go.Proofs.Ythflokonihegbaa
