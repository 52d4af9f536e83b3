/- The law FramesRoundTrip: the walk. -/
import Derived.Test.YthflokonihegbaaLawF
import Derived.Test.YthflokonihegbaaDrFs
import Derived.Test.YthflokonihegbaaSameFs
import Derived.Test.YthflokonihegbaaIFs
import Derived.Test.YthflokonihegbaaIFd
namespace Go.Proofs.Ythflokonihegbaa
open Go.RowKit
set_option linter.unusedVariables false
set_option linter.unusedSimpArgs false

set_option maxRecDepth 100000 in
set_option maxHeartbeats 2000000 in
theorem fsround_walk (a : Option Addr) (len cap : Nat) (zs : List Int) (w : World) (h : IsRow .u8 w a len cap zs) :
    Calls Try.prog 7 #[.slice a len cap] w fun e w' => e = .returned (.bool true) ∧ Below w.heap.size w w' := by
  have H := Lib.hid h
  clear h
  by_cases hl : 1048576 < len
  · go_enter Try.func7, Try.ntmps7
    go_wp2
    go_ret
    exact ⟨rfl, Below.refl _ _⟩
  go_enter Try.func7, Try.ntmps7
  go_wp2_with fail
  refine (drawFsEnc_any a len cap zs w H.out).mono ?_
  rintro e w1 ⟨v, rows, ⟨hl6, hLL⟩, rfl, hb, ho⟩
  have HF1 := Lib.hid ho.frs
  have HB1 := Lib.hid hb
  have HLN : Hid (∀ f ∈ rows.map Prod.fst, f.rs.length ≤ 1048576 ∧ f.d.size ≤ 2097152) := Lib.hid (fun f hf => by
    obtain ⟨r, hr, rfl⟩ := List.mem_map.1 hf
    exact hLL r hr)
  have hln : (rows.map Prod.fst).length ≤ 6 := by simpa using hl6
  clear ho hb hl6 hLL
  generalize rows.map Prod.fst = l at *
  have HV : Hid (∃ la lc, v = .slice la l.length lc) := Lib.hid (by obtain ⟨la, lc, hv, _⟩ := HF1.out; exact ⟨la, lc, hv⟩)
  obtain ⟨la, lc, rfl⟩ := HV.out
  obtain ⟨ok, hok⟩ : ∃ ok, fsok l = ok := ⟨_, rfl⟩
  obtain ⟨t, ht⟩ : ∃ t, (if fsok l then catF l else ⟨#[]⟩) = t := ⟨_, rfl⟩
  have IS := Lib.hid (fun W h => ifsenc_any (.slice la l.length lc) l W h (by omega) HLN.out)
  have SS := Lib.hid (fun W h => sfsenc_any (.slice la l.length lc) l W h (by omega) HLN.out)
  unfold FsPost at IS SS
  rw [ht, hok] at IS SS
  have HDE : Hid (ok = true → t.size ≤ 4194304 ∧ fsF t = some l) := Lib.hid (fun q => by
    rw [q] at hok
    have hp := fsok_parts hok
    rw [← ht, if_pos hok]
    have := catF_size l hp.1
    exact ⟨by omega, by rw [fsF_cat l hp.1, if_pos hp.2]⟩)
  clear ht hok HV
  go_wp2_with fail
  refine (IS.out w1 HF1.out).mono ?_
  rintro e w2 ⟨rfl, hb2⟩
  have HF2 := Lib.hid (HF1.out.below hb2)
  have HB2 := Lib.hid (HB1.out.trans (hb2.mono HB1.out.size))
  clear hb2
  go_wp2_with fail
  refine (SS.out w2 HF2.out).mono ?_
  rintro e w3 ⟨rfl, hb3⟩
  have HF3 := Lib.hid (HF2.out.below hb3)
  have HB3 := Lib.hid (HB2.out.trans (hb3.mono HB2.out.size))
  clear hb3
  cases ok
  · clear HDE
    go_wp2_with fail
    go_ret
    exact ⟨rfl, HB3.out⟩
  · have HSZ := Lib.hid (HDE.out rfl).1
    have HFS := Lib.hid (HDE.out rfl).2
    clear HDE
    go_wp2_with fail
    refine (ifsdec_any t w3 HSZ.out).mono ?_
    rw [HFS.out]
    rintro e w4 ⟨v4, rows4, rfl, hrw, hb4, ho4⟩
    have HF4 := ho4.frs
    rw [hrw] at HF4
    have HF4' := Lib.hid (show Frs w4 v4 l from HF4)
    have HF34 := Lib.hid (HF3.out.below hb4)
    have HB4 := Lib.hid (HB3.out.trans (hb4.mono HB3.out.size))
    clear hrw hb4 ho4 HF4
    simp only [Option.isSome_some]
    go_wp2_with fail
    refine (samefs_any v4 (.slice la l.length lc) l w4 HF4'.out HF34.out (by omega) HLN.out).mono ?_
    rintro e w5 ⟨rfl, hb5⟩
    have HB5 := Lib.hid (HB4.out.trans (hb5.mono HB4.out.size))
    clear hb5
    go_wp2_with fail
    go_ret
    exact ⟨rfl, HB5.out⟩
end Go.Proofs.Ythflokonihegbaa
