/- FnExactFramesDecode. -/
import Derived.Test.YthflokonihegbabMkFs
import Derived.Test.YthflokonihegbabEqFs
import Derived.Test.YthflokonihegbabSFds
namespace Go.Proofs.Ythflokonihegbab
open Go.RowKit
set_option linter.unusedVariables false
set_option linter.unusedSimpArgs false

/-- The row holds its marks. -/
def HeldOK (w : World) (B : Nat) (a : Option Addr) (c : Nat) (rows : List FrR) : Prop := rows = [] ∨ ∃ g, a = some ⟨g, 0, none⟩ ∧ ∀ i, i < rows.length → MF w B g i (Kf (rows.take i)) (rows.getD i frRD)
theorem HeldOK.below {w w' : World} {B c : Nat} {a : Option Addr} {rows : List FrR} (h : HeldOK w B a c rows) (hb : Below w.heap.size w w') : HeldOK w' B a c rows := by
  rcases h with h | ⟨g, h1, h2⟩
  · exact .inl h
  · exact .inr ⟨g, h1, fun i hi => (h2 i hi).below hb⟩
theorem HeldOK.of {w w' : World} {B c : Nat} {a : Option Addr} {rows : List FrR} {e : Ending} (h : MarkPost w B (.slice a rows.length c) rows e w') : HeldOK w' B a c rows := by
  obtain ⟨_, _, h | ⟨g, c', h1, h2⟩⟩ := h
  · exact .inl h
  · injection h1 with h1
    exact .inr ⟨g, h1, h2⟩
set_option maxRecDepth 100000 in
set_option maxHeartbeats 1000000 in
theorem held_ok (a : Option Addr) (c B : Nat) (rows : List FrR) (w : World) (h : HeldOK w B a c rows) (h6 : rows.length ≤ 6) (h16 : ∀ r ∈ rows, r.1.rs.length ≤ 16) :
    Calls Try.prog 28 #[.slice a rows.length c, .int .i64 1] w fun e w' => e = .returned (.int .i64 (Kf rows)) ∧ Below w.heap.size w w' := by
  rcases h with h | ⟨g, rfl, h2⟩
  · subst h
    clear h16 h6
    go_enter Try.func28, Try.ntmps28
    go_wp2_with fail
    refine wp_loop_rounds 1 ?_
    rw [rounds_succ]
    go_wp2_with fail
    go_ret
    exact ⟨rfl, Below.refl _ _⟩
  · exact heldfs_any g c B rows w h2 h6 h16

set_option maxRecDepth 100000 in
set_option maxHeartbeats 2000000 in
theorem exfsd_walk (s : ByteArray) (w : World) (hs : s.size ≤ maxLen) : Calls Try.prog 7 #[.string s] w fun e w' => e = .returned (.bool true) ∧ Below w.heap.size w w' := by
  by_cases hl : (1048576 : Int) < s.size
  · go_enter Try.func7, Try.ntmps7
    go_wp2
    go_ret
    exact ⟨rfl, Below.refl _ _⟩
  have hs4 : s.size ≤ 4194304 := by omega
  have HS := Lib.hid (fun W => sfsdec_any s W hs4)
  have HI := Lib.hid (fun W => ifsdec2_any s W hs4)
  unfold FdsPost at HS
  unfold Fds2 at HI
  have HLN : Hid (∀ f ∈ (fsF s).getD [], f.rs.length ≤ 16 ∧ f.d.size ≤ 12) := Lib.hid (by
    cases hq : fsF s with
    | none => intro f hf; simp at hf
    | some l => intro f hf; exact fok_bnd (List.all_eq_true.1 (fsok_parts (fsF_some hq).1).1 f hf))
  have HL6 : Hid (((fsF s).getD []).length ≤ 6) := Lib.hid (by
    cases hq : fsF s with
    | none => simp
    | some l => have := (fsok_parts (fsF_some hq).1).2.2; simp only [Option.getD_some]; omega)
  generalize (fsF s).getD [] = l at *
  generalize (fsF s).isSome = ok at *
  have HEQ := Lib.hid (fun W v v' h h' => eqfs_any v v' l W h h' (by have := HL6.out; omega) (fun f hf => by have := HLN.out f hf; omega))
  go_enter Try.func7, Try.ntmps7
  go_wp2_with fail
  refine (HS.out _).mono ?_
  rintro e w1 ⟨v0, rows0, rfl, hr0, hb1, ho1⟩
  have hf0 := ho1.frs
  rw [hr0] at hf0
  have HF0 := Lib.hid hf0
  have HB1 := Lib.hid hb1
  clear hr0 hb1 ho1 hf0
  go_wp2_with fail
  refine (HI.out _).mono ?_
  rintro e w2 ⟨v1, rows, rfl, hr1, hb2, ho2, hp⟩
  obtain ⟨la, lc, rfl⟩ := ownsRow_shape ho2.1
  have hl6 : rows.length ≤ 6 := by have := HL6.out; rw [← hr1, List.length_map] at this; exact this
  have H16 : Hid (∀ r ∈ rows, r.1.rs.length ≤ 16) := Lib.hid (fun r hr => (HLN.out r.1 (by rw [← hr1]; exact List.mem_map.2 ⟨r, hr, rfl⟩)).1)
  have hf2 := ho2.frs
  rw [hr1] at hf2
  have HF2 := Lib.hid hf2
  have HO2 := Lib.hid ho2
  have HP := Lib.hid hp
  have HC2 : Hid (Below w1.heap.size w1 w2) := Lib.hid hb2
  have HF02 := Lib.hid (HF0.out.below hb2)
  clear hr1 hb2 ho2 hf2 hp
  go_wp2_with fail
  refine (HEQ.out _ _ _ HF2.out HF02.out).mono ?_
  rintro e w3 ⟨rfl, hb3⟩
  have HC3 := Lib.hid (HC2.out.trans (hb3.mono HC2.out.size))
  have HO3 := Lib.hid (HO2.out.below hb3)
  clear hb3
  go_wp2_with fail
  refine (markfs_any _ rows w1.heap.size w3 HO3.out HP.out hl6 H16.out).mono ?_
  rintro e w4 hmp
  have HH4 := Lib.hid (HeldOK.of hmp)
  obtain ⟨rfl, hb4, _⟩ := hmp
  have HC4 := Lib.hid (HC3.out.trans hb4)
  have hkb := Kf_bnd rows H16.out
  have HHD := Lib.hid (fun W h => held_ok la lc w1.heap.size rows W h hl6 H16.out)
  have hk0 : ¬ Kf rows < 0 := by omega
  have hk1 : (Kf rows != Kf rows) = false := by simp
  generalize Kf rows = K at *
  clear hb4 hkb
  go_wp2_with fail
  refine (HHD.out _ HH4.out).mono ?_
  rintro e w5 ⟨rfl, hb5⟩
  have HC5 := Lib.hid (HC4.out.trans (hb5.mono HC4.out.size))
  have HH5 := Lib.hid (HH4.out.below hb5)
  clear hb5
  go_wp2_with fail
  refine (HI.out _).mono ?_
  rintro e w6 ⟨v2, rows2, rfl, hr2, hb6, ho6, _⟩
  have hf6 := ho6.frs
  rw [hr2] at hf6
  have HF6 := Lib.hid hf6
  have HC6 := Lib.hid (HC5.out.trans (hb6.mono HC5.out.size))
  have HH6 := Lib.hid (HH5.out.below hb6)
  clear hr2 hb6 ho6 hf6
  go_wp2_with fail
  refine (HEQ.out _ _ _ HF6.out (HF0.out.below HC6.out)).mono ?_
  rintro e w7 ⟨rfl, hb7⟩
  have HC7 := Lib.hid (HC6.out.trans (hb7.mono HC6.out.size))
  have HH7 := Lib.hid (HH6.out.below hb7)
  clear hb7
  go_wp2_with fail
  refine (HHD.out _ HH7.out).mono ?_
  rintro e w8 ⟨rfl, hb8⟩
  have HB8 := Lib.hid (HB1.out.trans ((HC7.out.trans (hb8.mono HC7.out.size)).mono HB1.out.size))
  clear hb8
  go_wp2_with fail
  go_ret
  exact ⟨rfl, HB8.out⟩
end Go.Proofs.Ythflokonihegbab
