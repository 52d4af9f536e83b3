/- The law FramesParts: the walk. -/
import Derived.Test.YthflokonihegbaaLawF
import Derived.Test.YthflokonihegbaaDrFs
import Derived.Test.YthflokonihegbaaIFs
namespace Go.Proofs.Ythflokonihegbaa
open Go.RowKit
set_option linter.unusedVariables false
set_option linter.unusedSimpArgs false

/-- The texts of the frames, one after the other. -/
def txt (l : List Fr) : ByteArray := l.foldl (fun a f => a ++ fencS f) ⟨#[]⟩
theorem txt_snoc (l : List Fr) (f : Fr) : txt (l ++ [f]) = txt l ++ fencS f := by unfold txt; rw [List.foldl_append]; rfl
theorem fencS_le (f : Fr) : (fencS f).size ≤ 160 := by
  cases hq : fok f
  · rw [fencS_no hq]; show 0 ≤ 160; omega
  · rw [fencS_yes hq]; exact (fenc_size hq).2
theorem txt_cat : ∀ (l : List Fr) (a : ByteArray), okF l = true → l.foldl (fun a f => a ++ fencS f) a = a ++ catF l
  | [], a, _ => (app_nil a).symm
  | f :: l, a, h => by
    obtain ⟨h1, h2⟩ := okF_cons.1 h
    rw [List.foldl_cons, txt_cat l _ h2, fencS_yes h1, catF, app_assoc']
theorem okF_snoc (l : List Fr) (f : Fr) : okF (l ++ [f]) = (okF l && fok f) := by unfold okF; rw [List.all_append]; simp

set_option maxRecDepth 100000 in
set_option maxHeartbeats 2000000 in
theorem fparts_walk (a : Option Addr) (len cap : Nat) (zs : List Int) (w : World) (h : IsRow .u8 w a len cap zs) :
    Calls Try.prog 10 #[.slice a len cap] w fun e w' => e = .returned (.bool true) ∧ Below w.heap.size w w' := by
  have H := Lib.hid h
  clear h
  by_cases hl : 1048576 < len
  · go_enter Try.func10, Try.ntmps10
    go_wp2
    go_ret
    exact ⟨rfl, Below.refl _ _⟩
  go_enter Try.func10, Try.ntmps10
  go_wp2_with fail
  refine (drawFsEnc_any a len cap zs w H.out).mono ?_
  rintro e w1 ⟨v, rows, ⟨hl6, hLL⟩, rfl, hb, ho⟩
  have HF1 := Lib.hid ho.frs
  have HB1 := Lib.hid hb
  have HLN : Hid (∀ f ∈ rows.map Prod.fst, f.rs.length ≤ 1048576 ∧ f.d.size ≤ 2097152) := Lib.hid (fun f hf => by
    obtain ⟨r, hr, rfl⟩ := List.mem_map.1 hf
    exact hLL r hr)
  have hln : (rows.map Prod.fst).length ≤ 6 := by simpa using hl6
  clear ho hb hl6 hLL
  generalize rows.map Prod.fst = l at *
  have HV : Hid (∃ la lc, v = .slice la l.length lc) := Lib.hid (by obtain ⟨la, lc, hv, _⟩ := HF1.out; exact ⟨la, lc, hv⟩)
  obtain ⟨la, lc, rfl⟩ := HV.out
  obtain ⟨ok, hok⟩ : ∃ ok, fsok l = ok := ⟨_, rfl⟩
  obtain ⟨t, ht⟩ : ∃ t, (if fsok l then catF l else ⟨#[]⟩) = t := ⟨_, rfl⟩
  have IS := Lib.hid (fun W h => ifsenc_any (.slice la l.length lc) l W h (by omega) HLN.out)
  have SS := Lib.hid (fun W h => sfsenc_any (.slice la l.length lc) l W h (by omega) HLN.out)
  unfold FsPost at IS SS
  rw [ht, hok] at IS SS
  have HT := Lib.hid ht
  have HOK := Lib.hid hok
  have HGO : Hid ((decide (0 < l.length) && okF l) = ok) := Lib.hid (by rw [← hok]; unfold fsok; rw [Bool.and_comm]; congr 1; rw [decide_eq_decide]; omega)
  have HTX : Hid (ok = true → t = txt l) := Lib.hid (fun q => by
    rw [q] at hok
    rw [← ht, if_pos hok]
    have := txt_cat l ⟨#[]⟩ (fsok_parts hok).1
    rw [nil_app] at this
    exact this.symm)
  clear ht hok HV
  go_wp2_with fail
  refine (IS.out w1 HF1.out).mono ?_
  rintro e w2 ⟨rfl, hb2⟩
  have HF2 := Lib.hid (HF1.out.below hb2)
  have HB2 := Lib.hid (HB1.out.trans (hb2.mono HB1.out.size))
  clear hb2
  go_wp2_with fail
  refine (SS.out w2 HF2.out).mono ?_
  rintro e w3 ⟨rfl, hb3⟩
  have HF3 := Lib.hid (HF2.out.below hb3)
  have HB3 := Lib.hid (HB2.out.trans (hb3.mono HB2.out.size))
  clear hb3
  obtain ⟨g0, hg0⟩ : ∃ g0, decide (0 < l.length) = g0 := ⟨_, rfl⟩
  have HG0 := Lib.hid hg0
  rw [hg0] at HGO
  cases g0
  · have hz : l.length = 0 := by have := of_decide_eq_false hg0; omega
    have hln0 : l = [] := List.length_eq_zero_iff.1 hz
    have hokf : ok = false := by rw [← HGO.out]; rfl
    subst hokf
    subst hln0
    clear hg0 hz
    go_wp2_with fail
    refine wp_loop_rounds 1 ?_
    rw [rounds_succ]
    go_wp2_with fail
    go_ret
    exact ⟨rfl, HB3.out⟩
  · have hp : 0 < l.length := of_decide_eq_true hg0
    have hp' : (0 : Int) < (l.length : Int) := by omega
    have hp6 : (l.length : Int) ≤ 6 := by omega
    clear hg0
    go_wp2_with fail
    go_loopw [8, 9, 10] (fun tv gv iv wr => ∃ (j : Nat) (s : ByteArray) (q : Bool), j ≤ l.length ∧ iv = .int .i64 (j : Int) ∧ tv = .string s ∧ gv = .bool q ∧ s.size ≤ 160 * j ∧ Hid (s = txt (l.take j) ∧ q = okF (l.take j)) ∧ Hid (Below w.heap.size w wr) ∧ Hid (Frs wr (.slice la l.length lc) l)) (fun _ _ iv _ => l.length - (intOf iv).toNat)
    case atStart => exact ⟨0, ⟨#[]⟩, true, Nat.zero_le _, rfl, rfl, rfl, Nat.le_refl _, ⟨rfl, rfl⟩, HB3, HF3⟩
    case round =>
      obtain ⟨j, s, q, hj, rfl, rfl, rfl, hs, HS, HB, HFR⟩ := hrel
      by_cases hlt : j < l.length
      · have hlt' : (j : Int) < (l.length : Int) := by omega
        obtain ⟨a9, c9, hv9, hc9⟩ := HFR.out
        obtain ⟨g, o, ha9, hc⟩ := hc9 (by rintro rfl; simp at hlt)
        injection hv9 with e1 e2 e3
        subst e1 e3 ha9
        obtain ⟨ra, rc, hf⟩ := hc j hlt
        have hbd := HLN.out _ (takeF l j hlt).2
        have HTK := Lib.hid (takeF l j hlt).1
        generalize l.getD j frD = f at *
        obtain ⟨c0, c1, c2, c3, c4, c5, hr⟩ := hf
        have HR := Lib.hid hr
        have IV := Lib.hid (fun W h => ifok_any f (.slice ra f.rs.length rc) W h hbd.1 hbd.2)
        have IE := Lib.hid (fun W h => ifenc_any f (.slice ra f.rs.length rc) W h hbd.1 hbd.2)
        have hz9 := fencS_le f
        have HTN : Hid (s ++ fencS f = txt (l.take (j + 1)) ∧ (q && fok f) = okF (l.take (j + 1))) := Lib.hid ⟨by rw [HTK.out, txt_snoc, HS.out.1], by rw [HTK.out, okF_snoc, HS.out.2]⟩
        clear hr hbd hc hc9 e2
        generalize fencS f = t9 at *
        generalize fok f = k9 at *
        unfold frV at IV IE
        have hcat : ¬ 9223372036854775807 < s.size + t9.size := by omega
        go_wp2_with fail
        refine (IE.out _ HR.out).mono ?_
        rintro e w5 ⟨rfl, hb5⟩
        have hlg : g < wr.heap.size := World.block_lt_of_cell? wr _ c0
        have d0 := (hb5.cell (p := ⟨g, o + j * 6, none⟩) hlg).trans c0
        have d1 := (hb5.cell (p := ⟨g, o + j * 6 + 1, none⟩) hlg).trans c1
        have d2 := (hb5.cell (p := ⟨g, o + j * 6 + 2, none⟩) hlg).trans c2
        have d3 := (hb5.cell (p := ⟨g, o + j * 6 + 3, none⟩) hlg).trans c3
        have d4 := (hb5.cell (p := ⟨g, o + j * 6 + 4, none⟩) hlg).trans c4
        have d5 := (hb5.cell (p := ⟨g, o + j * 6 + 5, none⟩) hlg).trans c5
        have HR5 := Lib.hid (HR.out.below hb5)
        have HB5 := Lib.hid (HB.out.trans (hb5.mono HB.out.size))
        have HFR5 := Lib.hid (HFR.out.below hb5)
        clear hb5
        cases q
        · go_wp2_with fail
          go_roundw
          case rel => exact ⟨j + 1, s ++ t9, false, by omega, by go_num, rfl, rfl, by rw [size_app]; omega, HTN, HB5, HFR5⟩
          case measure => simp [intOf]; omega
        · go_wp2_with fail
          refine (IV.out _ HR5.out).mono ?_
          rintro e w6 ⟨rfl, hb6⟩
          have HB6 := Lib.hid (HB5.out.trans (hb6.mono HB5.out.size))
          have HFR6 := Lib.hid (HFR5.out.below hb6)
          clear hb6
          go_wp2_with fail
          go_roundw
          case rel => exact ⟨j + 1, s ++ t9, k9, by omega, by go_num, rfl, rfl, by rw [size_app]; omega, by simpa using HTN, HB6, HFR6⟩
          case measure => simp [intOf]; omega
      · have hlt' : ¬ (j : Int) < (l.length : Int) := by omega
        have hte : l.take j = l := List.take_of_length_le (by omega)
        have hS := HS.out
        rw [hte] at hS
        have hqo : q = ok := by rw [hS.2, ← HGO.out]; rfl
        subst hqo
        cases q
        · clear hS hte
          go_wp2_with fail
          go_ret
          exact ⟨rfl, HB.out⟩
        · have hts : t.toList = s.toList := by rw [HTX.out rfl, hS.1]
          have htb : (t.toList == s.toList) = true := beq_iff_eq.2 hts
          clear hS hte
          go_wp2_with fail
          go_ret
          exact ⟨rfl, HB.out⟩
end Go.Proofs.Ythflokonihegbaa
