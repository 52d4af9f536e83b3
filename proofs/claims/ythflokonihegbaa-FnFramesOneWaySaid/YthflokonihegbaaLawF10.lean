/- The law FramesOneWay: the walk. -/
import Derived.Test.YthflokonihegbaaLawF
import Derived.Test.YthflokonihegbaaSFds
import Derived.Test.YthflokonihegbaaSameFs
import Derived.Test.YthflokonihegbaaIFs
import Derived.Test.YthflokonihegbaaIFd
import Derived.Test.YthflokonihegbaaDrText
namespace Go.Proofs.Ythflokonihegbaa
open Go.RowKit
set_option linter.unusedVariables false
set_option linter.unusedSimpArgs false

theorem okF_mem {l : List Fr} (h : okF l = true) : ∀ f ∈ l, f.rs.length ≤ 1048576 ∧ f.d.size ≤ 2097152 := fun f hf => by
  have := fok_bnd (List.all_eq_true.1 h f hf)
  omega

set_option maxRecDepth 100000 in
set_option maxHeartbeats 2000000 in
theorem fsone_walk (a : Option Addr) (len cap : Nat) (zs : List Int) (w : World) (h : IsRow .u8 w a len cap zs) :
    Calls Try.prog 8 #[.slice a len cap] w fun e w' => e = .returned (.bool true) ∧ Below w.heap.size w w' := by
  have H := Lib.hid h
  clear h
  by_cases hl : 1048576 < len
  · go_enter Try.func8, Try.ntmps8
    go_wp2
    go_ret
    exact ⟨rfl, Below.refl _ _⟩
  go_enter Try.func8, Try.ntmps8
  go_wp2_with fail
  refine (drawTFs_any a len cap zs w H.out).mono ?_
  rintro e w1 ⟨s, hs, rfl, hb⟩
  have HB1 := Lib.hid hb
  have HSZ : Hid (s.size ≤ 4194304) := Lib.hid (by omega)
  clear hb
  have HLN : Hid (∀ f ∈ (fsF s).getD [], f.rs.length ≤ 1048576 ∧ f.d.size ≤ 2097152) := Lib.hid (by
    cases hq : fsF s with
    | none => intro f hf; simp at hf
    | some l => exact okF_mem (fsok_parts (fsF_some hq).1).1)
  have HL6 : Hid (((fsF s).getD []).length ≤ 1048576) := Lib.hid (by
    cases hq : fsF s with
    | none => simp
    | some l => have := (fsok_parts (fsF_some hq).1).2.2; simp only [Option.getD_some]; omega)
  have HEN : Hid ((fsF s).isSome = true → fsok ((fsF s).getD []) = true ∧ catF ((fsF s).getD []) = s) := Lib.hid (fun q => by
    cases hq : fsF s with
    | none => rw [hq] at q; cases q
    | some l => exact fsF_some hq)
  have IS := Lib.hid (ifsdec_any s w1 HSZ.out)
  have SS := Lib.hid (fun W => sfsdec_any s W HSZ.out)
  unfold FdsPost at IS SS
  generalize (fsF s).getD [] = l at *
  generalize (fsF s).isSome = ok at *
  go_wp2_with fail
  refine IS.out.mono ?_
  rintro e w2 ⟨v2, rows2, rfl, hr2, hb2, ho2⟩
  have hf2 := ho2.frs
  rw [hr2] at hf2
  have HF2 := Lib.hid (show Frs w2 v2 l from hf2)
  have HB2 := Lib.hid (HB1.out.trans (hb2.mono HB1.out.size))
  clear hr2 hb2 ho2 hf2
  go_wp2_with fail
  refine (SS.out _).mono ?_
  rintro e w3 ⟨v3, rows3, rfl, hr3, hb3, ho3⟩
  have hf3 := ho3.frs
  rw [hr3] at hf3
  have HF3 := Lib.hid (show Frs w3 v3 l from hf3)
  have HF23 := Lib.hid (HF2.out.below hb3)
  have HB3 := Lib.hid (HB2.out.trans (hb3.mono HB2.out.size))
  clear hr3 hb3 ho3 hf3
  cases ok
  · go_wp2_with fail
    refine (samefs_any v2 v3 l w3 HF23.out HF3.out HL6.out HLN.out).mono ?_
    rintro e w4 ⟨rfl, hb4⟩
    have HF24 := Lib.hid (HF23.out.below hb4)
    have HF34 := Lib.hid (HF3.out.below hb4)
    have HB4 := Lib.hid (HB3.out.trans (hb4.mono HB3.out.size))
    clear hb4
    go_wp2_with fail
    refine (samefs_any v2 v3 l w4 HF24.out HF34.out HL6.out HLN.out).mono ?_
    rintro e w5 ⟨rfl, hb5⟩
    have HB5 := Lib.hid (HB4.out.trans (hb5.mono HB4.out.size))
    clear hb5
    go_wp2_with fail
    go_ret
    exact ⟨rfl, HB5.out⟩
  · have IE := Lib.hid (fun W h => ifsenc_any v2 l W h HL6.out HLN.out)
    unfold FsPost at IE
    rw [(HEN.out rfl).1, if_pos rfl, (HEN.out rfl).2] at IE
    go_wp2_with fail
    refine (samefs_any v2 v3 l w3 HF23.out HF3.out HL6.out HLN.out).mono ?_
    rintro e w4 ⟨rfl, hb4⟩
    have HF24 := Lib.hid (HF23.out.below hb4)
    have HB4 := Lib.hid (HB3.out.trans (hb4.mono HB3.out.size))
    clear hb4
    go_wp2_with fail
    refine (IE.out _ HF24.out).mono ?_
    rintro e w5 ⟨rfl, hb5⟩
    have HB5 := Lib.hid (HB4.out.trans (hb5.mono HB4.out.size))
    clear hb5
    go_wp2_with fail
    go_ret
    exact ⟨rfl, HB5.out⟩
end Go.Proofs.Ythflokonihegbaa
