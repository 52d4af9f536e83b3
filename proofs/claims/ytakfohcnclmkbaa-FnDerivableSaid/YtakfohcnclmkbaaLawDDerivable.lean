/- The law FnDerivable: the walk. -/
import Derived.Test.YtakfohcnclmkbaaLawD
namespace Go.Proofs.Ytakfohcnclmkbaa
open Go.RowKit
set_option linter.unusedVariables false
set_option linter.unusedSimpArgs false

set_option maxRecDepth 100000 in
set_option maxHeartbeats 1000000 in
theorem derivable_walk (a : Option Addr) (len cap : Nat) (zs : List Int) (w : World) (h : IsRow .u8 w a len cap zs) :
    Calls Try.prog 9 #[.slice a len cap] w fun e w' => e = .returned (.bool true) ∧ Below w.heap.size w w' := by
  have H := Lib.hid h
  clear h
  by_cases hl : 1048576 < len
  · have hl' : (1048576 : Int) < (len : Int) := by omega
    go_enter Try.func9, Try.ntmps9
    go_wp2
    go_ret
    exact ⟨rfl, Below.refl _ _⟩
  have hl' : ¬ (1048576 : Int) < (len : Int) := by omega
  go_enter Try.func9, Try.ntmps9
  go_wp2_with fail
  refine (drawDb_any a len cap zs w H.out).mono ?_
  rintro e w1 ⟨v, u, l, k, x, rfl, hb, hv, hu, hd, hx⟩
  have HB1 := Lib.hid hb
  have HV1 := Lib.hid hv
  have HU1 := Lib.hid hu
  have HL := Lib.hid hd.lens
  have HX : Hid (i64ok x) := Lib.hid (i64ok_of hx.ok.1 hx.ok.2)
  obtain ⟨va, vc, rfl⟩ := hv.shape
  obtain ⟨ua, uc, rfl⟩ := hu.shape
  clear hb hv hu hd hx
  go_wp2_with fail
  refine (idble_any _ _ l k x w1 HV1.out HU1.out (by have := HL.out.1; omega) HL.out.2.1 HL.out.2.2 HX.out).mono ?_
  rintro e w2 ⟨rfl, hb⟩
  have HB2 := Lib.hid (HB1.out.trans (hb.mono HB1.out.size))
  have HV2 := Lib.hid (HV1.out.below hb)
  have HU2 := Lib.hid (HU1.out.below hb)
  clear hb
  have HDE : Hid (decide (x ∈ dl l k) = db l k x) := Lib.hid (by rw [Bool.eq_iff_iff, decide_eq_true_iff, mem_dl, db_iff])
  have SD := Lib.hid (fun W hW hU => sdble_any (.slice va l.length vc) (.slice ua k.length uc) l k x W hW hU (by have := HL.out.1; omega) HL.out.2.1 HL.out.2.2)
  generalize db l k x = q at *
  go_wp2_with fail
  refine (SD.out w2 HV2.out HU2.out).mono ?_
  rintro e w3 ⟨rfl, hb⟩
  have HB3 := Lib.hid (HB2.out.trans (hb.mono HB2.out.size))
  have HV3 := Lib.hid (HV2.out.below hb)
  have HU3 := Lib.hid (HU2.out.below hb)
  clear hb
  have HQ : Hid ((q != q) = false) := Lib.hid (by cases q <;> rfl)
  have HQ2 : Hid ((q == q) = true) := Lib.hid (by cases q <;> rfl)
  have hdl := dl_len l k
  obtain ⟨ds, hds⟩ : ∃ ds, dl l k = ds := ⟨_, rfl⟩
  rw [hds] at HDE hdl
  have HDS := Lib.hid hds
  clear hds
  have ID := Lib.hid (ider_any (.slice va l.length vc) (.slice ua k.length uc) l k w3 HV3.out HU3.out (by have := HL.out.1; omega) HL.out.2.1 HL.out.2.2)
  rw [HDS.out] at ID
  cases q
  all_goals
    go_wp2_with fail
    refine ID.out.mono ?_
    rintro e w4 ⟨ov, rfl, hb, ho, _⟩
    obtain ⟨oa, oc, rfl⟩ := ho.shape
    have HB4 := Lib.hid (HB3.out.trans (hb.mono HB3.out.size))
    have HO4 := Lib.hid ho.ints
    clear hb ho
    go_wp2_with fail
    refine (lhas_any _ ds x w4 HO4.out (by omega)).mono ?_
    rw [HDE.out]
    rintro e w5 ⟨rfl, hb⟩
    have HB5 := Lib.hid (HB4.out.trans (hb.mono HB4.out.size))
    clear hb
    go_wp2_with fail
    go_ret
    exact ⟨rfl, HB5.out⟩

end Go.Proofs.Ytakfohcnclmkbaa
