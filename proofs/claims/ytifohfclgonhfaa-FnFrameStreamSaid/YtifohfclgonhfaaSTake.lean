/- Chapter 4, the model's l4Take. -/
import Derived.Test.YtifohfclgonhfaaSEnc
import Derived.Test.YtifohfclgonhfaaDeMath
namespace Go.Proofs.Ytifohfclgonhfaa
open Go.RowKit
set_option linter.unusedVariables false
set_option linter.unusedSimpArgs false

def TkAt (m : Nat) (s : ByteArray) (acc : List Int) (u : Nat) : Prop := tk4 m s = (acc ++ (tk4 (m - acc.length) (cut s u)).1, u + (tk4 (m - acc.length) (cut s u)).2)
theorem tkAt_zero (m : Nat) (s : ByteArray) : TkAt m s [] 0 := by unfold TkAt; rw [cut_zero]; simp
theorem tkAt_full {m : Nat} {s : ByteArray} {acc : List Int} {u : Nat} (h : TkAt m s acc u) (hm : m ≤ acc.length) : tk4 m s = (acc, u) := by
  unfold TkAt at h; rw [h, show m - acc.length = 0 by omega, tk4]; simp
theorem tkAt_stop {m : Nat} {s : ByteArray} {acc : List Int} {u : Nat} (h : TkAt m s acc u) (hm : acc.length < m) (hd : dsz (cut s u) = 0 ∨ dsz (cut s u) ≠ vlen (dval (cut s u))) : tk4 m s = (acc, u) := by
  unfold TkAt at h; rw [h, show m - acc.length = (m - acc.length - 1) + 1 by omega, tk4, if_pos hd]; simp
theorem tkAt_step {m : Nat} {s : ByteArray} {acc : List Int} {u : Nat} (h : TkAt m s acc u) (hm : acc.length < m) (hd : dsz (cut s u) ≠ 0) (hv : dsz (cut s u) = vlen (dval (cut s u))) : TkAt m s (acc ++ [dval (cut s u)]) (u + (dsz (cut s u)).toNat) := by
  unfold TkAt at h ⊢
  rw [h, show m - acc.length = (m - acc.length - 1) + 1 by omega, tk4, if_neg (by omega), cut_cut, List.length_append, List.length_singleton, show m - (acc.length + 1) = m - acc.length - 1 by omega, List.append_assoc, Nat.add_assoc]
  rfl

def TakePost (w : World) (p : List Int × Nat) (e : Ending) (w' : World) : Prop :=
  ∃ (a : Option Addr) (c : Nat), e = .returned (.tuple #[.slice a p.1.length c, .int .i64 (p.2 : Int)]) ∧ Below w.heap.size w w' ∧ w'.ownsRow w.heap.size 3 1 (.slice a p.1.length c) p.1.length (p.1.map (Value.int .i64))

theorem TakePost.of {w w' : World} {p : List Int × Nat} {acc : List Int} {u : Nat} {a : Option Addr} {c : Nat} (h : p = (acc, u)) (hb : Below w.heap.size w w') (ho : w'.ownsRow w.heap.size 3 1 (.slice a acc.length c) acc.length (acc.map (Value.int .i64))) : TakePost w p (.returned (.tuple #[.slice a acc.length c, .int .i64 (u : Int)])) w' := by
  subst h; exact ⟨a, c, rfl, hb, ho⟩

set_option maxRecDepth 100000 in
set_option maxHeartbeats 1000000 in
theorem stake_any (s : ByteArray) (m : Nat) (w : World) (hs : s.size ≤ maxLen) (hm : m ≤ 1000) : Calls Try.prog 70 #[.string s, .int .i64 (m : Int)] w (TakePost w (tk4 m s)) := by
  have HM := Lib.hid hs
  unfold maxLen at hs
  obtain ⟨i0, hi, hz0, hz1, hz2⟩ := info_parts try_infoInt
  have HI := Lib.hid hi
  clear hi
  go_enter Try.func70, Try.ntmps70
  go_wp2_with fail
  go_loopw [6, 7] (fun ov uv wr => ∃ (acc : List Int) (u : Nat), uv = .int .i64 (u : Int) ∧ u ≤ s.size ∧ acc.length ≤ m ∧ Hid (TkAt m s acc u) ∧ Hid (wr.ownsRow w.heap.size 3 1 ov acc.length (acc.map (Value.int .i64))) ∧ Hid (Below w.heap.size w wr)) (fun _ uv _ => s.size - (intOf uv).toNat)
  case atStart => exact ⟨[], 0, rfl, Nat.zero_le _, Nat.zero_le _, tkAt_zero m s, ownsRow_empty w, (Below.refl _ _).alloc (Nat.le_refl _) _⟩
  case round =>
    obtain ⟨acc, u, rfl, hu, hacc, HT, HO, HB⟩ := hrel
    obtain ⟨la, lc, rfl⟩ := ownsRow_shape HO.out
    have hu' : (u : Int) ≤ (s.size : Int) := by omega
    by_cases hlt : acc.length < m
    · have hlt' : (acc.length : Int) < (m : Int) := by omega
      have HRM : Hid ((cut s u).size ≤ maxLen) := Lib.hid (by rw [cut_sz]; unfold maxLen; omega)
      have hrs : (cut s u).size = s.size - u := cut_sz s u
      have hle := dsz_le (cut s u)
      have hnn := dsz_nonneg (cut s u)
      have hdr := dval_range (cut s u)
      rw [hrs] at hle
      have hD := tkAt_stop HT.out hlt
      have hE := tkAt_step HT.out hlt
      go_wp2_with fail
      refine (l1d_any (cut s u) _ HRM.out).mono ?_
      rintro e w1 ⟨rfl, hb1⟩
      have HB1 := Lib.hid (HB.out.trans (hb1.mono HB.out.size))
      have HO1 := Lib.hid (own_below HO.out hb1)
      clear hb1 hrs
      generalize dsz (cut s u) = z at *
      generalize dval (cut s u) = x at *
      by_cases hz : z = 0
      · have hzb : (z == 0) = true := by rw [beq_iff_eq]; exact hz
        have HD := Lib.hid (hD (.inl hz))
        clear hD hE hz
        go_wp2_with fail
        go_ret2
        exact TakePost.of HD.out HB1.out HO1.out
      · have hzb := bne_of hz
        by_cases hv : z = vlen x
        · have HE := Lib.hid (hE hz hv)
          have hvb : (z == vlen x) = true := by rw [beq_iff_eq]; exact hv
          have hvb2 : (z != vlen x) = false := by rw [bne, hvb]; rfl
          have hws := HB1.out.size
          clear hD hE
          go_wp2_with fail
          refine (l1Len_any _ _ hdr.1 hdr.2).mono ?_
          rintro e w2 ⟨rfl, rfl⟩
          go_wp2_with (at_builtin; refine wpList_append_own _ rfl _ _ 107 rfl w.heap.size 3 i0 (.int .i64 0) 1 8 Try.underlying107 HI.out hz0 hz1 hz2 rfl (by decide) _ _ _ rfl (HO1.out.alloc _) ⟨w1.heap.size, 0, none⟩ 1 1 [.int .i64 x] rfl rfl ?c1 ?c2 ?c3 ?c4 ?c5 ?_)
          case c1 => exact cell_one_new _ _ _
          case c2 => intro q hq; simp at hq; subst hq; rfl
          case c3 => unfold maxLen; omega
          case c4 => omega
          case c5 => simp; omega
          intro v' w3 hown2 hgrow hiff
          have HB3 := Lib.hid (below_kept (HB1.out.alloc HB1.out.size _) (HO1.out.alloc _) (by simp; omega) hgrow)
          have HO3 := Lib.hid (own_lens (xs := acc) (ys := [x]) hown2 rfl rfl)
          have hl3 : (acc ++ [x]).length ≤ m := by rw [List.length_append, List.length_singleton]; omega
          generalize acc ++ [x] = acc2 at *
          clear hown2 hgrow hiff
          have hw : IntKind.i64.wrap ((u : Int) + z) = (u : Int) + z := IntWalk.i64_in _ (by omega)
          have HU : Hid ((u : Int) + vlen x = ((u + z.toNat : Nat) : Int)) := Lib.hid (by omega)
          go_wp2_with fail
          go_roundw
          case rel => exact ⟨acc2, u + z.toNat, congrArg (Value.int .i64) HU.out, by omega, hl3, HE, HO3, HB3⟩
          case measure => simp [intOf]; omega
        · have hvb := bnt hv
          have HD := Lib.hid (hD (.inr hv))
          clear hD hE
          go_wp2_with fail
          refine (l1Len_any _ _ hdr.1 hdr.2).mono ?_
          rintro e w2 ⟨rfl, rfl⟩
          go_wp2_with fail
          go_ret2
          exact TakePost.of HD.out HB1.out HO1.out
    · have hlt' : ¬ (acc.length : Int) < (m : Int) := by omega
      have HD := Lib.hid (tkAt_full HT.out (by omega))
      go_wp2_with fail
      go_ret2
      exact TakePost.of HD.out HB.out HO.out
end Go.Proofs.Ytifohfclgonhfaa
