/- The reader of the drawn codes: the contract of 'pick'. -/
import Derived.Test.YtdhdomnhgcejhaaBase
import Derived.Deep.QuietTactic
import Derived.BigQuiet
import Derived.OpenShut
namespace Go.Proofs.Ytdhdomnhgcejhaa
open Go.RowKit
set_option linter.unusedVariables false
set_option linter.unusedSimpArgs false

def IsRow (k : IntKind) (w : World) (a : Option Addr) (len cap : Nat) (zs : List Int) : Prop :=
  (a = none ∧ len = 0 ∧ cap = 0 ∧ zs = []) ∨
  ∃ x, a = some x ∧ len ≤ cap ∧ cap ≤ maxLen ∧ zs.length = cap ∧ (∀ i, i < zs.length → w.cell? (x.add i) = some (.int k (zs.getD i 0))) ∧ ∀ n ∈ zs, (Lit.int k n).wf = true

theorem set_other (w : World) (b : Nat) (v : Value) (q : Addr) (x : Value) (h : (⟨b, 1, none⟩ : Addr) ≠ q) (hq : w.cell? q = some x) : (w.setCell ⟨b, 1, none⟩ v).cell? q = some x := by
  rw [World.cell?_setCell_other _ _ _ _ h]; exact hq
/-- A pick: a number below n, the reader's place is one further, some draws. -/
def Picked (w : World) (b p : Nat) (n : Int) (e : Ending) (w' : World) : Prop :=
  ∃ (x : Int) (m : Nat), 0 ≤ x ∧ x < n ∧ e = .returned (.int .i64 x) ∧ w' = (w.setCell ⟨b, 1, none⟩ (.int .i64 (p + 1))).drewN m

set_option maxRecDepth 100000 in
set_option maxHeartbeats 1000000 in
theorem pick_empty (b p : Nat) (a : Option Addr) (cap : Nat) (n : Int) (w : World) (hn : 1 ≤ n) (hn2 : n ≤ 1000000) (hp : p ≤ 1000000) 
    (hc0 : w.cell? ⟨b, 0, none⟩ = some (.slice a 0 cap)) (hc1 : w.cell? ⟨b, 1, none⟩ = some (.int .i64 p)) (hf : w.frozen? ⟨b, 1, none⟩ = false) :
    Calls Try.prog 49 #[.pointer (some ⟨b, 0, none⟩), .int .i64 n] w (Picked w b p n) := by
  go_enter Try.func49, Try.ntmps49
  go_wp2
  go_ret
  exact ⟨0, 0, by omega, by omega, rfl, rfl⟩

set_option maxRecDepth 100000 in
set_option maxHeartbeats 1000000 in
theorem pick_near (b p ab off len cap : Nat) (z : Int) (n : Int) (w : World) (hn : 1 ≤ n) (hn2 : n ≤ 1000000) (hp : p ≤ 1000000) (hl : p < len) (hlm : len ≤ 9223372036854775807) (hz0 : 0 ≤ z) (hz1 : z < 256) (hab : ab ≠ b)
    (hc0 : w.cell? ⟨b, 0, none⟩ = some (.slice (some ⟨ab, off, none⟩) len cap)) (hc1 : w.cell? ⟨b, 1, none⟩ = some (.int .i64 p)) (hf : w.frozen? ⟨b, 1, none⟩ = false)
    (hc : w.cell? ⟨ab, off + p, none⟩ = some (.int .u8 z)) :
    Calls Try.prog 49 #[.pointer (some ⟨b, 0, none⟩), .int .i64 n] w (Picked w b p n) := by
  have hl0 : ((len : Int) == 0) = false := by rw [beq_eq_false_iff_ne]; omega
  have hba : b ≠ ab := fun h => hab h.symm
  go_enter Try.func49, Try.ntmps49
  go_wp2
  go_ret
  exact ⟨z % n, 0, Int.emod_nonneg _ (by omega), Int.emod_lt_of_pos _ (by omega), rfl, rfl⟩

theorem xor_i64 (a b : Int) (ha : 0 ≤ a) (ha' : a < 9223372036854775808) (hb : 0 ≤ b) (hb' : b < 9223372036854775808) : 0 ≤ bits .xor .i64 a b := by
  obtain ⟨a, rfl⟩ := Int.eq_ofNat_of_zero_le ha
  obtain ⟨b, rfl⟩ := Int.eq_ofNat_of_zero_le hb
  have hx : a ^^^ b < 2 ^ 63 := Nat.xor_lt_two_pow (by omega) (by omega)
  have h1 : (BitVec.ofInt 64 (a : Int)).toNat = a := by
    rw [BitVec.ofInt_natCast, BitVec.toNat_ofNat]; exact Nat.mod_eq_of_lt (by omega)
  have h2 : (BitVec.ofInt 64 (b : Int)).toNat = b := by
    rw [BitVec.ofInt_natCast, BitVec.toNat_ofNat]; exact Nat.mod_eq_of_lt (by omega)
  show 0 ≤ IntKind.i64.wrap ((BitVec.ofInt 64 (a : Int) ^^^ BitVec.ofInt 64 (b : Int)).toNat : Int)
  rw [BitVec.toNat_xor, h1, h2, IntKind.wrap_i64]
  omega
theorem far_num (s n : Int) (h0 : 0 ≤ s) (h1 : s ≤ 1000000000000) (hn : 1 ≤ n) :
    0 ≤ (bits BinOp.xor IntKind.i64 (wrap64 s) (wrap64 ((wrap64 s).tdiv 64))).tmod n ∧ (bits BinOp.xor IntKind.i64 (wrap64 s) (wrap64 ((wrap64 s).tdiv 64))).tmod n < n := by
  have e1 : wrap64 s = s := by unfold wrap64; omega
  have e2 : s.tdiv 64 = s / 64 := by rw [Int.tdiv_eq_ediv_of_nonneg h0]
  have e3 : wrap64 (s / 64) = s / 64 := by unfold wrap64; omega
  rw [e1, e2, e3]
  have hx := xor_i64 s (s / 64) h0 (by omega) (by omega) (by omega)
  rw [Int.tmod_eq_emod_of_nonneg hx]
  exact ⟨Int.emod_nonneg _ (by omega), Int.emod_lt_of_pos _ (by omega)⟩
theorem far_sum (z1 z2 : Int) (p len : Nat) (hz0 : 0 ≤ z1) (hz1 : z1 < 256) (hz2 : 0 ≤ z2) (hz3 : z2 < 256) (hp : p ≤ 1000000) :
    0 ≤ z1 * 131 + z2 * 1117 + p * 29 + wrap64 (wrap64 ((p : Int) / len) * 53) ∧ z1 * 131 + z2 * 1117 + p * 29 + wrap64 (wrap64 ((p : Int) / len) * 53) ≤ 1000000000000 := by
  have hd : (p : Int) / len = ((p / len : Nat) : Int) := by simp
  have hle : p / len ≤ p := Nat.div_le_self _ _
  rw [hd]
  generalize p / len = q at hle
  have e1 : wrap64 (q : Int) = q := by unfold wrap64; omega
  rw [e1]
  have e2 : wrap64 ((q : Int) * 53) = q * 53 := by unfold wrap64; omega
  rw [e2]
  omega

set_option maxRecDepth 100000 in
set_option maxHeartbeats 1000000 in
theorem pick_far (b p ab off len cap i1 i2 : Nat) (z1 z2 : Int) (n : Int) (w : World) (hn : 1 ≤ n) (hn2 : n ≤ 1000000) (hp : p ≤ 1000000) (hl : len ≤ p) (hpos : 0 < len) (hz0 : 0 ≤ z1) (hz1 : z1 < 256) (hz2 : 0 ≤ z2) (hz3 : z2 < 256) (hab : ab ≠ b)
    (hi1 : i1 = p % len) (hi2 : i2 = (p * 7 + 3) % len)
    (hc0 : w.cell? ⟨b, 0, none⟩ = some (.slice (some ⟨ab, off, none⟩) len cap)) (hc1 : w.cell? ⟨b, 1, none⟩ = some (.int .i64 p)) (hf : w.frozen? ⟨b, 1, none⟩ = false)
    (hca : w.cell? ⟨ab, off + i1, none⟩ = some (.int .u8 z1)) (hcb : w.cell? ⟨ab, off + i2, none⟩ = some (.int .u8 z2)) :
    Calls Try.prog 49 #[.pointer (some ⟨b, 0, none⟩), .int .i64 n] w (Picked w b p n) := by
  have hl0 : ((len : Int) == 0) = false := by rw [beq_eq_false_iff_ne]; omega
  have hba : b ≠ ab := fun h => hab h.symm
  have HA1 : i1 < len := by rw [hi1]; exact Nat.mod_lt _ hpos
  have HA2 : i2 < len := by rw [hi2]; exact Nat.mod_lt _ hpos
  have HI1 := Lib.hid hi1
  have HI2 := Lib.hid hi2
  clear hi1 hi2
  go_enter Try.func49, Try.ntmps49
  go_wp2
  have q0 := set_other w b (.int .i64 ((p : Int) + 1)) _ _ (by simp) hc0
  have q1 := set_other w b (.int .i64 ((p : Int) + 1)) _ _ (by simp [hba]) hca
  have q2 := set_other w b (.int .i64 ((p : Int) + 1)) _ _ (by simp [hba]) hcb
  obtain ⟨W, hW⟩ : ∃ W, W = w.setCell ⟨b, 1, none⟩ (.int .i64 ((p : Int) + 1)) := ⟨_, rfl⟩
  rw [← hW] at q0 q1 q2 ⊢
  have HW := Lib.hid hW
  clear hW hc0 hc1 hf hca hcb hab hba
  have hne : len ≠ 0 := by omega
  have hnei : (len : Int) ≠ 0 := by omega
  have t1 : (p : Int).tmod (len : Int) = (i1 : Int) := by rw [HI1.out]; rfl
  have w1 : IntKind.i64.wrap (p * 7 : Int) = (p : Int) * 7 := IntWalk.i64_in _ (by omega)
  have w2 : IntKind.i64.wrap ((p : Int) * 7 + 3) = (p : Int) * 7 + 3 := IntWalk.i64_in _ (by omega)
  have t2 : ((p : Int) * 7 + 3).tmod (len : Int) = (i2 : Int) := by rw [HI2.out]; rfl
  have b1 : (i1 : Int) < len := by omega
  have b2 : (i2 : Int) < len := by omega
  go_quiet (fail)
  go_wp2
  go_ret
  have F := far_num (z1 * 131 + z2 * 1117 + p * 29 + wrap64 (wrap64 ((p : Int) / len) * 53)) n (far_sum z1 z2 p len hz0 hz1 hz2 hz3 hp).1 (far_sum z1 z2 p len hz0 hz1 hz2 hz3 hp).2 hn
  exact ⟨_, nq, F.1, F.2, rfl, by rw [HW.out]⟩

/-- The reader: its block b (not the code's) holds the code and the place p. -/
structure Rd (w : World) (b p : Nat) (a : Option Addr) (len cap : Nat) (zs : List Int) : Prop where
  c0 : w.cell? ⟨b, 0, none⟩ = some (.slice a len cap)
  c1 : w.cell? ⟨b, 1, none⟩ = some (.int .i64 p)
  fr : w.frozen? ⟨b, 1, none⟩ = false
  row : IsRow .u8 w a len cap zs
  far : ∀ x, a = some x → 0 < cap → x.block ≠ b

theorem u8_range {n : Int} (h : (Lit.int .u8 n).wf = true) : 0 ≤ n ∧ n < 256 := by
  have := bounds_u8 h; omega

theorem pick_any (b p : Nat) (a : Option Addr) (len cap : Nat) (zs : List Int) (n : Int) (w : World) (R : Rd w b p a len cap zs) (hn : 1 ≤ n) (hn2 : n ≤ 1000000) (hp : p ≤ 1000000) :
    Calls Try.prog 49 #[.pointer (some ⟨b, 0, none⟩), .int .i64 n] w (Picked w b p n) := by
  obtain ⟨c0, c1, fr, row, far⟩ := R
  rcases row with ⟨rfl, rfl, rfl, rfl⟩ | ⟨x, rfl, hl, hm, hz, hcell, hwz⟩
  · exact pick_empty b p none 0 n w hn hn2 hp c0 c1 fr
  · by_cases h0 : len = 0
    · subst h0
      exact pick_empty b p _ cap n w hn hn2 hp c0 c1 fr
    obtain ⟨ab, off, spot⟩ := x
    have hspot : spot = none := by
      have := World.cell?_spot (hcell 0 (by omega))
      simpa [Addr.add] using this
    subst hspot
    have hne := far _ rfl (by omega)
    have hc : ∀ i, i < zs.length → w.cell? ⟨ab, off + i, none⟩ = some (.int .u8 (zs.getD i 0)) := fun i hi => by
      have e : (⟨ab, off, none⟩ : Addr).add i = ⟨ab, off + i, none⟩ := by unfold Addr.add; split <;> simp_all
      rw [← e]; exact hcell i hi
    have hr : ∀ i, i < zs.length → 0 ≤ zs.getD i 0 ∧ zs.getD i 0 < 256 := fun i hi => by
      rw [List.getD_eq_getElem?_getD, List.getElem?_eq_getElem hi]; exact u8_range (hwz _ (List.getElem_mem hi))
    unfold maxLen at hm
    by_cases hk : p < len
    · have := hr p (by omega)
      exact pick_near b p ab off len cap _ n w hn hn2 hp hk (by omega) this.1 this.2 hne c0 c1 fr (hc p (by omega))
    · have m1 : p % len < len := Nat.mod_lt _ (by omega)
      have m2 : (p * 7 + 3) % len < len := Nat.mod_lt _ (by omega)
      have r1 := hr (p % len) (by omega)
      have r2 := hr ((p * 7 + 3) % len) (by omega)
      exact pick_far b p ab off len cap _ _ _ _ n w hn hn2 hp (by omega) (by omega) r1.1 r1.2 r2.1 r2.2 hne rfl rfl c0 c1 fr (hc _ (by omega)) (hc _ (by omega))

end Go.Proofs.Ytdhdomnhgcejhaa
