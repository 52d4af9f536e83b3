/- The drawn list of the law VarintJoin. -/
import Derived.Test.YtfppnaaofkicaaaArg
import Derived.Test.YtfppnaaofkicaaaSplit
namespace Go.Proofs.Ytfppnaaofkicaaa
open Go.RowKit
set_option linter.unusedVariables false
set_option linter.unusedSimpArgs false

def GotInts (w : World) (e : Ending) (w' : World) : Prop :=
  ∃ (v : Value) (xs : List Int), xs.length ≤ 5 ∧ e = .returned v ∧ Below w.heap.size w w' ∧ w'.ownsRow w.heap.size 3 1 v xs.length (xs.map (Value.int .i64)) ∧ v ≠ .slice none 0 0

theorem rdr_ne {w : World} {B b n : Nat} {e : TypeId} {k : Nat} {v : Value} {xs : List Value} (h : w.ownsRow B e k v n xs) (hb : b < B) : v.ownBlock = none ∨ v.ownBlock ≠ some b := by
  right
  intro hq
  have := (h.lt b hq).1
  omega
theorem ownsRow_lower {w : World} {B B' n : Nat} {e : TypeId} {k : Nat} {v : Value} {xs : List Value} (h : w.ownsRow B e k v n xs) (hB : B' ≤ B) : w.ownsRow B' e k v n xs := by
  obtain ⟨h0, h | ⟨g, c, cur, h1, h2, h3⟩⟩ := h
  · exact ⟨h0, .inl h⟩
  · exact ⟨h0, .inr ⟨g, c, cur, h1, by omega, h3⟩⟩
theorem nn_after {v v' : Value} {m : Nat} (hn : v ≠ .slice none 0 0) (h : v' = .slice none 0 0 ↔ v = .slice none 0 0 ∧ m = 0) : v' ≠ .slice none 0 0 := fun e => hn (h.1 e).1

set_option maxHeartbeats 1000000 in
theorem drawJoin_any (a : Option Addr) (len cap : Nat) (zs : List Int) (w : World) (h : IsRow .u8 w a len cap zs) :
    Calls Try.prog 23 #[.slice a len cap] w (GotInts w) := by
  obtain ⟨i0, hi, hz0, hz1, hz2⟩ := info_parts try_infoInt
  have HI := Lib.hid hi
  have H := Lib.hid h
  clear h hi
  go_enter Try.func23, Try.ntmps23
  go_wp2_with fail
  refine (open_any a len cap zs w H.out).mono ?_
  rintro e w1 ⟨rfl, hb, hR⟩
  have hlt := hR.1
  have B1 := Lib.hid hb
  have R1 := Lib.hid (hR.below ((Below.refl _ _).alloc (Nat.le_refl _) (.cells #[] 3)))
  clear hb hR
  go_wp2_with fail
  go_loopw [4, 5] (fun lv iv wr => ∃ (j : Nat) (xs : List Int), j ≤ 5 ∧ xs.length = j ∧ iv = .int .i64 j ∧ Rdr wr w.heap.size (11 * j) ∧ wr.ownsRow w1.heap.size 3 1 lv xs.length (xs.map (Value.int .i64)) ∧ lv ≠ .slice none 0 0 ∧ Below w.heap.size w wr ∧ w1.heap.size ≤ wr.heap.size) (fun _ iv _ => 6 - (intOf iv).toNat)
  case atStart => exact ⟨0, [], by omega, rfl, rfl, R1.out, ownsRow_empty w1, by simp, B1.out.alloc B1.out.size _, by simp⟩
  case round =>
    obtain ⟨j, xs, hj, hxl, rfl, hR, ho, hnn, hb, hsz⟩ := hrel
    have RR := Lib.hid hR
    have HO := Lib.hid ho
    have HN := Lib.hid hnn
    have HB := Lib.hid hb
    have HX := Lib.hid hxl
    clear hR ho hnn hb hxl
    go_wp2_with fail
    refine (pick_rdr _ _ _ _ RR.out (by omega) (by omega) (by omega)).mono ?_
    rintro e w2 ⟨x, hx, rfl, hg2, hR2⟩
    have RR2 := Lib.hid hR2
    have HO2 := Lib.hid (HO.out.kept hg2 (rdr_ne HO.out hlt))
    have HB2 := Lib.hid (HB.out.grown hg2 HB.out.size (fun k hk => by injection hk with hk; omega))
    have hs2 := hg2.size
    clear hg2 hR2
    by_cases hlt2 : j < x
    · have hlt' : (j : Int) < (x : Int) := by omega
      have hj5 : j < 5 := by omega
      go_wp2_with fail
      refine (num_any _ _ _ RR2.out (by omega)).mono ?_
      rintro e w3 ⟨n, hn, rfl, hg3, hR3⟩
      have RR3 := Lib.hid hR3
      have HO3 := Lib.hid (HO2.out.kept hg3 (rdr_ne HO2.out hlt))
      have HB3 := Lib.hid (HB2.out.grown hg3 HB2.out.size (fun k hk => by injection hk with hk; omega))
      have hs3 := hg3.size
      have hxs5 : xs.length < 5 := by have := HX.out; omega
      clear hg3 hR3 hn
      go_wp2_with (at_builtin; refine wpList_append_own _ rfl _ _ 32 rfl w1.heap.size 3 i0 (.int .i64 0) 1 8 Try.underlying32 HI.out hz0 hz1 hz2 rfl (by decide) _ _ _ rfl (HO3.out.alloc _) ⟨w3.heap.size, 0, none⟩ 1 1 [.int .i64 n] rfl rfl ?c1 ?c2 ?c3 ?c4 ?c5 ?_)
      case c1 => exact cell_one_new _ _ _
      case c2 => intro u hu; simp at hu; subst hu; rfl
      case c3 => unfold maxLen; omega
      case c4 => omega
      case c5 => simp; omega
      intro v' w4 hown hgrow hiff
      have HN4 := Lib.hid (show v' ≠ .slice none 0 0 from hiff)
      have hrow : ∀ r, (Value.ownBlock _) = some r → w1.heap.size ≤ r := fun r hr => (HO3.out.lt r hr).1
      have RR4 := Lib.hid ((RR3.out.below ((Below.refl _ _).alloc (Nat.le_refl _) (.cells #[.int .i64 n] 3))).grown hgrow (fun r hr => by have := hrow r hr; omega))
      have HB4 := Lib.hid ((HB3.out.alloc HB3.out.size (.cells #[.int .i64 n] 3)).grown hgrow (by have := HB3.out.size; simp; omega) (fun r hr => by have := hrow r hr; omega))
      have HO4 := Lib.hid hown
      have hs4 := hgrow.size
      clear hown hgrow hiff hrow
      simp at hs4
      go_wp2_with fail
      go_roundw
      case rel => exact ⟨j + 1, xs ++ [n], by omega, by simp; exact HX.out, by go_num, RR4.out.le (by omega), by simpa using HO4.out, HN4.out, HB4.out, by omega⟩
      case measure => simp [intOf]; omega
    · have hlt' : ¬ (j : Int) < (x : Int) := by omega
      go_wp2_with fail
      go_ret
      exact ⟨_, xs, by have := HX.out; omega, rfl, HB2.out, ownsRow_lower HO2.out (by omega), HN.out⟩

end Go.Proofs.Ytfppnaaofkicaaa
