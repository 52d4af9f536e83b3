/- The drawn lists of frames: l91Frames, DrawFramesEncode. -/
import Derived.Test.YthflokonihegbaaOwnFs
import Derived.Test.YthflokonihegbaaDrText
namespace Go.Proofs.Ythflokonihegbaa
open Go.RowKit
set_option linter.unusedVariables false
set_option linter.unusedSimpArgs false

def FrL (f : Fr) : Prop := f.rs.length ≤ 1048576 ∧ f.d.size ≤ 2097152
def DrewFs (w : World) (b k s : Nat) (e : Ending) (w' : World) : Prop :=
  ∃ (v : Value) (l : List FrR), (l.length ≤ 6 ∧ ∀ r ∈ l, FrL r.1) ∧ e = .returned v ∧ w.grownBy w' (some b) ∧ Rdr w' b (k + s) ∧ OwnFs w' w.heap.size v l
theorem snocL {l : List FrR} {r : FrR} (h : ∀ r ∈ l, FrL r.1) (hr : FrL r.1) : ∀ q ∈ l ++ [r], FrL q.1 := by
  intro q hq
  rcases List.mem_append.1 hq with hq | hq
  · exact h q hq
  · have : q = r := by simpa using hq
    rw [this]; exact hr

set_option maxRecDepth 100000 in
set_option maxHeartbeats 2000000 in
theorem frames_any (b k : Nat) (w : World) (R : Rdr w b k) (hk : k ≤ 300000) :
    Calls Try.prog 51 #[.pointer (some ⟨b, 0, none⟩)] w (DrewFs w b k 4000) := by
  have hbl := R.1
  obtain ⟨i0, hi, hz0, hz1, hz2⟩ := info_parts try_infoFrame
  have HI := Lib.hid hi
  clear hi
  have R0 := Lib.hid (R.below ((Below.refl w.heap.size w).alloc (Nat.le_refl _) (.cells #[] 25)))
  go_enter Try.func51, Try.ntmps51
  go_wp2_with fail
  go_loopw [3, 4] (fun ov iv wr => ∃ (j : Nat) (l : List FrR), j ≤ 5 ∧ iv = .int .i64 (j : Int) ∧ l.length ≤ j ∧ Hid (∀ r ∈ l, FrL r.1) ∧ Hid (Rdr wr b (k + 500 * j)) ∧ Hid (w.grownBy wr (some b)) ∧ Hid (OwnFs wr w.heap.size ov l)) (fun _ iv _ => 6 - (intOf iv).toNat)
  case atStart => exact ⟨0, [], by omega, rfl, Nat.le_refl _, (fun r hr => by simp at hr), R0.out, World.grownBy_alloc _ _ _, OwnFs.new _ _ (Nat.le_refl _)⟩
  case round =>
    obtain ⟨j, l, hj, rfl, hlj, HL, HR, HG, HO⟩ := hrel
    go_wp2_with fail
    refine (pick_rdr b _ _ _ HR.out (by omega) (by omega) (by omega)).mono ?_
    rintro e w1 ⟨x, hx, rfl, hg1, hR1⟩
    have HR1 := Lib.hid hR1
    have HG1 := Lib.hid (HG.out.trans hg1)
    have HO1 := Lib.hid (HO.out.picked hg1 hbl)
    clear hg1 hR1
    by_cases hlt : j < x
    · have hlt' : (j : Int) < (x : Int) := by omega
      obtain ⟨la, lc, rfl⟩ := ownsRow_shape HO1.out.1
      go_wp2_with fail
      refine (good_any b _ _ HR1.out (by omega)).mono ?_
      rintro e w2 ⟨f, ra, rc, hok, rfl, hg2, hR2, ho2⟩
      have HR2 := Lib.hid hR2
      have HG2 := Lib.hid (HG1.out.trans hg2)
      have HO2 := Lib.hid (HO1.out.picked hg2 hbl)
      have HWZ := HG1.out.size
      have HAP : Hid (∀ y, (fsl (f, ra, rc)).ownBlock = some y → (Value.slice la l.length lc).ownBlock ≠ some y) := Lib.hid (fun y hy e => by
        have h1 := (World.ownsRow.lt ho2 y hy).1
        have h2 := (World.ownsRow.lt HO1.out.1 y e).2
        omega)
      have HRG : Hid (OwnRg w2 w.heap.size (fsl (f, ra, rc)) f.rs) := Lib.hid (OwnRg.lower ho2 (by omega))
      have HFL := Lib.hid (show FrL f from by have := fok_bnd hok; unfold FrL; omega)
      clear hg2 hR2 ho2 hok
      unfold frV
      go_wp2_with (at_builtin; refine hold ?_)
      refine unhold ?_
      have NW := news_lit w2 25 (fcell (f, ra, rc)) 6
      refine wpList_append_own_at (w := w2.alloc (.cells (fcell (f, ra, rc)).toArray 25)) rfl (.tmp 12) (.tmp 15) 35 rfl w.heap.size 25 i0 (.agg #[.int .i64 0, .int .i64 0, .int .i64 0, .int .i64 0, .string ⟨#[]⟩, .slice none 0 0]) 6 72 Try.underlying35 HI.out hz0 hz1 hz2 rfl (by decide) _ _ _ rfl (World.ownsRow.alloc HO2.out.1 _) ⟨w2.heap.size, 0, none⟩ 1 1 (fcell (f, ra, rc)) rfl rfl NW (one6 _) ?a1 ?a2 ?a3 ?_
      case a1 => unfold maxLen; omega
      case a2 => omega
      case a3 => have := HG2.out.size; simp; omega
      intro v3 w3 ho3 hg3 hiff3 hob3
      have HO3 := Lib.hid (OwnFs.snoc HO2.out HRG.out HAP.out ho3 hg3 hob3)
      have HG3 := Lib.hid (World.grownBy.andThen (World.grownBy.trans HG2.out (World.grownBy_alloc _ _ _)) hg3 (fun y hy => .inl (World.ownsRow.lt HO2.out.1 y hy).1))
      have HR3 := Lib.hid ((HR2.out.below ((Below.refl _ _).alloc (Nat.le_refl _) _)).grown hg3 (fun y hy => by have := (World.ownsRow.lt HO2.out.1 y hy).1; omega))
      have HLL := Lib.hid (snocL (r := (f, ra, rc)) HL.out HFL.out)
      clear ho3 hg3 hiff3 hob3 NW
      go_wp2_with fail
      go_roundw
      case rel => exact ⟨j + 1, l ++ [(f, ra, rc)], by omega, by go_num, by rw [List.length_append, List.length_singleton]; omega, HLL, Lib.hid (HR3.out.le (by omega)), HG3, HO3⟩
      case measure => simp [intOf]; omega
    · have hlt' : ¬ (j : Int) < (x : Int) := by omega
      obtain ⟨la, lc, rfl⟩ := ownsRow_shape HO1.out.1
      go_wp2_with fail
      refine (pick_rdr b _ _ _ HR1.out (by omega) (by omega) (by omega)).mono ?_
      rintro e w9 ⟨y, hy, rfl, hg9, hR9⟩
      have HR9 := Lib.hid hR9
      have HG9 := Lib.hid (HG1.out.trans hg9)
      have HO9 := Lib.hid (HO1.out.picked hg9 hbl)
      clear hg9 hR9
      by_cases hy0 : y = 0
      · have hyb : ((y : Int) == 0) = true := by rw [hy0]; rfl
        clear hy0
        go_wp2_with fail
        refine (frame_any b _ _ HR9.out (by omega)).mono ?_
        rintro e w2 ⟨f, ra, rc, hf, rfl, hg2, hR2, ho2⟩
        have HR2 := Lib.hid hR2
        have HG2 := Lib.hid (HG9.out.trans hg2)
        have HO2 := Lib.hid (HO9.out.picked hg2 hbl)
        have HWZ := HG9.out.size
        have HAP : Hid (∀ y, (fsl (f, ra, rc)).ownBlock = some y → (Value.slice la l.length lc).ownBlock ≠ some y) := Lib.hid (fun y hy e => by
          have h1 := (World.ownsRow.lt ho2 y hy).1
          have h2 := (World.ownsRow.lt HO9.out.1 y e).2
          omega)
        have HRG : Hid (OwnRg w2 w.heap.size (fsl (f, ra, rc)) f.rs) := Lib.hid (OwnRg.lower ho2 (by omega))
        have HFL := Lib.hid (show FrL f from by unfold FrB at hf; unfold FrL; omega)
        clear hg2 hR2 ho2 hf
        unfold frV
        go_wp2_with (at_builtin; refine hold ?_)
        refine unhold ?_
        have NW := news_lit w2 25 (fcell (f, ra, rc)) 6
        refine wpList_append_own_at (w := w2.alloc (.cells (fcell (f, ra, rc)).toArray 25)) rfl (.tmp 20) (.tmp 23) 35 rfl w.heap.size 25 i0 (.agg #[.int .i64 0, .int .i64 0, .int .i64 0, .int .i64 0, .string ⟨#[]⟩, .slice none 0 0]) 6 72 Try.underlying35 HI.out hz0 hz1 hz2 rfl (by decide) _ _ _ rfl (World.ownsRow.alloc HO2.out.1 _) ⟨w2.heap.size, 0, none⟩ 1 1 (fcell (f, ra, rc)) rfl rfl NW (one6 _) ?q1 ?q2 ?q3 ?_
        case q1 => unfold maxLen; omega
        case q2 => omega
        case q3 => have := HG2.out.size; simp; omega
        intro v3 w3 ho3 hg3 hiff3 hob3
        have HO3 := Lib.hid (OwnFs.snoc HO2.out HRG.out HAP.out ho3 hg3 hob3)
        have HG3 := Lib.hid (World.grownBy.andThen (World.grownBy.trans HG2.out (World.grownBy_alloc _ _ _)) hg3 (fun y hy => .inl (World.ownsRow.lt HO2.out.1 y hy).1))
        have HR3 := Lib.hid ((HR2.out.below ((Below.refl _ _).alloc (Nat.le_refl _) _)).grown hg3 (fun y hy => by have := (World.ownsRow.lt HO2.out.1 y hy).1; omega))
        have HLL := Lib.hid (snocL (r := (f, ra, rc)) HL.out HFL.out)
        clear ho3 hg3 hiff3 hob3 NW
        go_wp2_with fail
        go_ret
        exact ⟨_, l ++ [(f, ra, rc)], ⟨by rw [List.length_append, List.length_singleton]; omega, HLL.out⟩, rfl, HG3.out, HR3.out.le (by omega), HO3.out⟩
      · have hyb : ((y : Int) == 0) = false := bne_of (by omega)
        go_wp2_with fail
        go_ret
        exact ⟨_, l, ⟨by omega, HL.out⟩, rfl, HG9.out, HR9.out.le (by omega), HO9.out⟩

def GotFs (w : World) (e : Ending) (w' : World) : Prop :=
  ∃ (v : Value) (l : List FrR), (l.length ≤ 6 ∧ ∀ r ∈ l, FrL r.1) ∧ e = .returned v ∧ Below w.heap.size w w' ∧ OwnFs w' w.heap.size v l
theorem OwnFs.lower {w : World} {B B' : Nat} {v : Value} {l : List FrR} (h : OwnFs w B v l) (hB : B' ≤ B) : OwnFs w B' v l := by
  obtain ⟨⟨h0, h1⟩, h2⟩ := h
  refine ⟨⟨h0, ?_⟩, fun r hr => ⟨OwnRg.lower (h2 r hr).1 hB, (h2 r hr).2⟩⟩
  rcases h1 with h | ⟨g, c, cur, q1, q2, q3⟩
  · exact .inl h
  · exact .inr ⟨g, c, cur, q1, by omega, q3⟩

set_option maxRecDepth 100000 in
set_option maxHeartbeats 1000000 in
theorem drawFsEnc_any (a : Option Addr) (len cap : Nat) (zs : List Int) (w : World) (h : IsRow .u8 w a len cap zs) :
    Calls Try.prog 25 #[.slice a len cap] w (GotFs w) := by
  have H := Lib.hid h
  clear h
  go_enter Try.func25, Try.ntmps25
  go_wp2_with fail
  refine (open_any a len cap zs w H.out).mono ?_
  rintro e w1 ⟨rfl, hb, hR⟩
  have B1 := Lib.hid hb
  clear hb
  go_wp2_with fail
  refine (frames_any _ 0 _ hR (by omega)).mono ?_
  rintro e w2 ⟨v, l, hl, rfl, hg2, hR2, ho2⟩
  have HB := Lib.hid (below_reader B1.out hg2)
  have HO := Lib.hid (ho2.lower B1.out.size)
  have HL := Lib.hid hl
  clear hg2 hR2 ho2 hl
  go_wp2_with fail
  go_ret
  exact ⟨v, l, HL.out, rfl, HB.out, HO.out⟩
end Go.Proofs.Ythflokonihegbaa
