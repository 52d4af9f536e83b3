/- The program's frameReader: ranges. -/
import Derived.Test.YthflokonihegbaaIRd
import Derived.Test.YthflokonihegbaaSRgs
namespace Go.Proofs.Ythflokonihegbaa
open Go.RowKit
set_option linter.unusedVariables false
set_option linter.unusedSimpArgs false

theorem Rdf.far {w w' : World} {b : Nat} {st : St} {row : Option Nat} (h : Rdf w b st) (hg : w.grownBy w' row) (hne : some b ≠ row) : Rdf w' b st :=
  ⟨fun i => (World.grownBy.cell_far hg ⟨b, i, none⟩ h.lt hne).trans (h.1 i), fun i => (World.grownBy.frozen_far hg ⟨b, i, none⟩ h.lt hne).trans (h.2 i)⟩
def IRgPost (w : World) (b : Nat) (p : List (Int × Int) × St) (e : Ending) (w' : World) : Prop :=
  ∃ a c, e = .returned (.slice a p.1.length c) ∧ OwnRg w' w.heap.size (.slice a p.1.length c) p.1 ∧ Rdf w' b p.2 ∧ w.grownBy w' (some b)
theorem own_nil (w : World) (B : Nat) (h : B ≤ w.heap.size) : OwnRg w B (.slice none 0 0) [] := ⟨rfl, .inl ⟨rfl, rfl⟩⟩
theorem rL_step (m : Nat) (z : Int) (st : St) : rL (m + 1) z st = ((z + 2 + (rI st).1, z + 2 + (rI st).1 + (rI (rI st).2).1) :: (rL m (z + 2 + (rI st).1 + (rI (rI st).2).1) (rI (rI st).2).2).1, (rL m (z + 2 + (rI st).1 + (rI (rI st).2).1) (rI (rI st).2).2).2) := rfl

set_option maxRecDepth 100000 in
set_option maxHeartbeats 2000000 in
theorem rranges_any (b : Nat) (st : St) (w : World) (h : Rdf w b st) (hs : st.1.size ≤ 4194304) : Calls Try.prog 67 #[.pointer (some ⟨b, 0, none⟩)] w (IRgPost w b (rR st)) := by
  have hbw : b < w.heap.size := h.lt
  have HI := Lib.hid (int_any b st w h hs)
  have hsz := rI_size st
  have hrg := rI_range st
  have HD : Hid (rR st = if (rI st).1 > 16 then ([], ((rI st).2.1, true)) else rL (rI st).1.toNat (-2) (rI st).2) := Lib.hid rfl
  generalize rR st = D at *
  generalize rI st = p at *
  obtain ⟨n, st1⟩ := p
  simp only at hsz hrg HD HI
  obtain ⟨n0, n1⟩ := hrg
  have HZ1 : Hid (st1.1.size ≤ 4194304) := Lib.hid (by omega)
  clear h hsz
  by_cases hg : n > 16
  · rw [if_pos hg] at HD
    go_enter Try.func67, Try.ntmps67
    go_wp2_with fail
    refine HI.out.mono ?_
    rintro e w1 ⟨rfl, hR, hgr⟩
    have HG := Lib.hid hgr
    have c1 : w1.cell? ⟨b, 1, none⟩ = some (.bool st1.2) := hR.1 1
    have z1 := hR.2 1
    have R1 : Hid (Rdf (w1.setCell ⟨b, 1, none⟩ (.bool true)) b (st1.1, true)) := Lib.hid ⟨hR.1.set (i := 1) (by simp) _, hR.2.set _ _⟩
    clear hR hgr
    go_wp2_with fail
    go_ret
    rw [HD.out]
    exact ⟨none, 0, rfl, own_nil _ _ (by have := HG.out.size; simp; omega), R1.out, World.grownBy.trans HG.out (grown_set _ _ _ _)⟩
  · rw [if_neg hg] at HD
    have hg2 : n ≤ 16 := by omega
    obtain ⟨i0, hi, hz0, hz1, hz2⟩ := info_parts try_infoRange
    have HIR := Lib.hid hi
    clear hi
    go_enter Try.func67, Try.ntmps67
    go_wp2_with fail
    refine HI.out.mono ?_
    rintro e w1 ⟨rfl, hR, hgr⟩
    have G1 : Hid (w.grownBy (w1.alloc (.cells #[] 85)) (some b)) := Lib.hid (World.grownBy.trans hgr (World.grownBy_alloc _ _ _))
    have R1 : Hid (Rdf (w1.alloc (.cells #[] 85)) b st1) := Lib.hid (hR.far (World.grownBy_alloc w1 _ none) (by simp))
    have O1 : Hid (OwnRg (w1.alloc (.cells #[] 85)) w.heap.size (.slice (some ⟨w1.heap.size, 0, none⟩) 0 0) []) := Lib.hid (own_new 85 2 w.heap.size w1 hgr.size)
    clear hR hgr
    go_wp2_with fail
    go_loopw [4, 5, 6, 7, 17] (fun lv zv _ _ iv wr => ∃ (k : Nat) (l : List (Int × Int)) (z : Int) (st' : St), (k : Int) ≤ n ∧ iv = .int .i64 (k : Int) ∧ zv = .int .i64 z ∧ (0 ≤ z ∧ z ≤ 2147483650 * (k : Int)) ∧ l.length ≤ k ∧ Hid (D = (l ++ (rL (n.toNat - k) (z - 2) st').1, (rL (n.toNat - k) (z - 2) st').2)) ∧ Hid (OwnRg wr w.heap.size lv l) ∧ Hid (Rdf wr b st') ∧ Hid (w.grownBy wr (some b)) ∧ Hid (st'.1.size ≤ 4194304)) (fun _ _ _ _ iv _ => n.toNat - (intOf iv).toNat)
    case atStart => exact ⟨0, [], 0, st1, by omega, rfl, rfl, by omega, Nat.le_refl _, HD.out, O1.out, R1.out, G1.out, HZ1.out⟩
    case round =>
      obtain ⟨k, l, z, st', hk, rfl, rfl, hz, hl, HDD, HO, HR, HGR, HZ⟩ := hrel
      obtain ⟨la, lc, rfl⟩ := ownsRow_shape HO.out
      by_cases hlt : (k : Int) < n
      · have HX := Lib.hid (int_any b st' wr HR.out HZ.out)
        have hr1 := rI_range st'
        have hr2 := rI_range (rI st').2
        have hz1' := rI_size st'
        have hz2' := rI_size (rI st').2
        have HDn := Lib.hid (rL_step (n.toNat - (k + 1)) (z - 2) st')
        rw [show n.toNat - (k + 1) + 1 = n.toNat - k from by omega] at HDn
        rw [HDn.out] at HDD
        have HY := Lib.hid (fun W h => int_any b (rI st').2 W h (by have := HZ.out; omega))
        generalize rI st' = p at *
        obtain ⟨x, st2⟩ := p
        simp only at HX hr1 hr2 hz1' hz2' HDD HY
        generalize rI st2 = p2 at *
        obtain ⟨y, st3⟩ := p2
        simp only at HY hr2 hz2' HDD
        have HZ3 : Hid (st3.1.size ≤ 4194304) := Lib.hid (by have := HZ.out; omega)
        have v1 : IntKind.i64.wrap (z + x) = z + x := IntWalk.i64_in _ (by omega)
        have v2 : IntKind.i64.wrap (z + x + y) = z + x + y := IntWalk.i64_in _ (by omega)
        have v3 : IntKind.i64.wrap (z + x + y + 2) = z + x + y + 2 := IntWalk.i64_in _ (by omega)
        clear hz1' hz2' HDn
        go_wp2_with fail
        refine HX.out.mono ?_
        rintro e w2 ⟨rfl, hR2, hgr2⟩
        have HR2 := Lib.hid hR2
        have HG2 := Lib.hid (World.grownBy.trans HGR.out hgr2)
        have HO2 := Lib.hid (OwnRg.picked HO.out hgr2 hbw)
        clear hR2 hgr2
        go_wp2_with fail
        refine (HY.out _ HR2.out).mono ?_
        rintro e w3 ⟨rfl, hR3, hgr3⟩
        have HR3 := Lib.hid hR3
        have HG3 := Lib.hid (World.grownBy.trans HG2.out hgr3)
        have HO3 := Lib.hid (OwnRg.picked HO2.out hgr3 hbw)
        have hw3 := HG3.out.size
        clear hR3 hgr3
        go_wp2_with (at_builtin; refine hold ?_)
        refine unhold ?_
        refine wpList_append_own_at (w := w3.alloc (.cells #[.int .i64 (z + x), .int .i64 (z + x + y)] 85)) rfl (.tmp 27) (.tmp 31) 23 rfl w.heap.size 85 i0 (.agg #[.int .i64 0, .int .i64 0]) 2 16 Try.underlying23 HIR.out hz0 hz1 hz2 rfl (by decide) _ _ _ rfl (World.ownsRow.alloc HO3.out _) ⟨w3.heap.size, 0, none⟩ 1 1 [.int .i64 (z + x), .int .i64 (z + x + y)] rfl rfl (cell_two_new _ _ _ _) (one2 _ _) ?c1 ?c2 ?c3 ?_
        case c1 => unfold maxLen; omega
        case c2 => omega
        case c3 => simp; omega
        intro v3 w4 ho4 hg4 hiff4 hob4
        have HO4 := Lib.hid (own_snoc ho4)
        have HG4 : Hid (w.grownBy w4 (some b)) := Lib.hid (World.grownBy.andThen (World.grownBy.trans HG3.out (World.grownBy_alloc w3 _ _)) hg4 fun j hj => .inl (World.ownsRow.lt HO3.out j hj).1)
        have HR4 : Hid (Rdf w4 b st3) := Lib.hid ((HR3.out.far (World.grownBy_alloc w3 _ none) (by simp)).far hg4 (fun e => by have := (World.ownsRow.lt HO3.out b e.symm).1; omega))
        clear ho4 hg4 hiff4 hob4
        have HDF : Hid (D = ((l ++ [(z + x, z + x + y)]) ++ (rL (n.toNat - (k + 1)) (z + x + y + 2 - 2) st3).1, (rL (n.toNat - (k + 1)) (z + x + y + 2 - 2) st3).2)) := Lib.hid (by
          rw [HDD.out, show z - 2 + 2 + x = z + x from by omega, show z + x + y + 2 - 2 = z + x + y from by omega, List.append_assoc]; rfl)
        have hl4 : (l ++ [(z + x, z + x + y)]).length ≤ k + 1 := by rw [List.length_append, List.length_singleton]; omega
        generalize l ++ [(z + x, z + x + y)] = l4 at *
        go_wp2_with fail
        go_roundw
        case rel => exact ⟨k + 1, l4, z + x + y + 2, st3, by omega, by go_num, rfl, by omega, hl4, HDF.out, HO4.out, HR4.out, HG4.out, HZ3.out⟩
        case measure => simp [intOf]; omega
      · have HE : Hid (D = (l, st')) := Lib.hid (by
          rw [HDD.out, show n.toNat - k = 0 from by omega]
          show (l ++ [], st') = (l, st')
          rw [List.append_nil])
        go_wp2_with fail
        go_ret
        rw [HE.out]
        exact ⟨la, lc, rfl, HO.out, HR.out, HGR.out⟩

end Go.Proofs.Ythflokonihegbaa
