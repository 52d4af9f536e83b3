/- Chapter 4, the model's FramesEncode: lists of frames in memory. -/
import Derived.Test.YthflokonihegbabSEnc
import Derived.Test.YthflokonihegbabFsMath
namespace Go.Proofs.Ythflokonihegbab
open Go.RowKit
set_option linter.unusedVariables false
set_option linter.unusedSimpArgs false

/-- The six cells of frame i, its ranges readable. -/
def FrAt (w : World) (g o : Nat) (f : Fr) (ra : Option Addr) (rc : Nat) : Prop :=
  w.cell? ⟨g, o, none⟩ = some (.int .i64 f.k) ∧ w.cell? ⟨g, o + 1, none⟩ = some (.int .i64 f.a) ∧ w.cell? ⟨g, o + 2, none⟩ = some (.int .i64 f.b) ∧ w.cell? ⟨g, o + 3, none⟩ = some (.int .i64 f.c) ∧ w.cell? ⟨g, o + 4, none⟩ = some (.string f.d) ∧ w.cell? ⟨g, o + 5, none⟩ = some (.slice ra f.rs.length rc) ∧ Rngs w (.slice ra f.rs.length rc) f.rs
def frD : Fr := ⟨0, 0, 0, 0, ⟨#[]⟩, []⟩
def Frs (w : World) (v : Value) (l : List Fr) : Prop :=
  ∃ a c, v = .slice a l.length c ∧ (l ≠ [] → ∃ g o, a = some ⟨g, o, none⟩ ∧ ∀ i, i < l.length → ∃ ra rc, FrAt w g (o + i * 6) (l.getD i frD) ra rc)
theorem FrAt.below {w w' : World} {g o : Nat} {f : Fr} {ra : Option Addr} {rc : Nat} (h : FrAt w g o f ra rc) (hb : Below w.heap.size w w') : FrAt w' g o f ra rc := by
  obtain ⟨h0, h1, h2, h3, h4, h5, h6⟩ := h
  have hl : g < w.heap.size := World.block_lt_of_cell? w _ h0
  exact ⟨(hb.cell hl).trans h0, (hb.cell hl).trans h1, (hb.cell hl).trans h2, (hb.cell hl).trans h3, (hb.cell hl).trans h4, (hb.cell hl).trans h5, h6.below hb⟩
theorem Frs.below {w w' : World} {v : Value} {l : List Fr} (h : Frs w v l) (hb : Below w.heap.size w w') : Frs w' v l := by
  obtain ⟨a, c, rfl, h⟩ := h
  refine ⟨a, c, rfl, fun hx => ?_⟩
  obtain ⟨g, o, rfl, hc⟩ := h hx
  exact ⟨g, o, rfl, fun i hi => by obtain ⟨ra, rc, hf⟩ := hc i hi; exact ⟨ra, rc, hf.below hb⟩⟩
theorem takeF (l : List Fr) (j : Nat) (h : j < l.length) : l.take (j + 1) = l.take j ++ [l.getD j frD] ∧ l.getD j frD ∈ l := by
  have e : l.getD j frD = l[j] := by rw [List.getD_eq_getElem?_getD, List.getElem?_eq_getElem h]; rfl
  rw [e]
  exact ⟨List.take_succ_eq_append_getElem h, List.getElem_mem h⟩
theorem okF_bad (l : List Fr) (j : Nat) (h : j < l.length) (hk : fok (l.getD j frD) = false) : okF l = false := by
  cases hq : okF l
  · rfl
  · have := List.all_eq_true.1 hq _ (takeF l j h).2
    rw [hk] at this; cases this
theorem okF_take (l : List Fr) (j : Nat) (h : j < l.length) (ho : okF (l.take j) = true) (hk : fok (l.getD j frD) = true) : okF (l.take (j + 1)) = true := by
  rw [(takeF l j h).1]
  unfold okF at ho ⊢
  rw [List.all_append, ho, List.all_cons, hk]
  rfl
def FsPost (w : World) (l : List Fr) (e : Ending) (w' : World) : Prop :=
  e = .returned (.tuple #[.string (if fsok l then catF l else ⟨#[]⟩), .bool (fsok l)]) ∧ Below w.heap.size w w'
theorem FsPost.no {w w' : World} {l : List Fr} (h : fsok l = false) (hb : Below w.heap.size w w') : FsPost w l (.returned (.tuple #[.string ⟨#[]⟩, .bool false])) w' := by
  refine ⟨?_, hb⟩; rw [h]; rfl
theorem FsPost.yes {w w' : World} {l : List Fr} {s : ByteArray} (h : fsok l = true) (hs : s = catF l) (hb : Below w.heap.size w w') : FsPost w l (.returned (.tuple #[.string s, .bool true])) w' := by
  subst hs; refine ⟨?_, hb⟩; rw [h]; rfl

set_option maxRecDepth 100000 in
set_option maxHeartbeats 2000000 in
theorem sfsenc_any (v : Value) (l : List Fr) (w : World) (h : Frs w v l) (hl : l.length ≤ 1048576) (hlen : ∀ f ∈ l, f.rs.length ≤ 1048576 ∧ f.d.size ≤ 2097152) : Calls Try.prog 21 #[v] w (FsPost w l) := by
  obtain ⟨a, c, rfl, h⟩ := h
  have HC := Lib.hid h
  have HLN := Lib.hid hlen
  clear h hlen
  go_enter Try.func21, Try.ntmps21
  go_wp2_with fail
  go_loopw [4, 5] (fun ov iv wr => ∃ (j : Nat) (s : ByteArray), j ≤ l.length ∧ iv = .int .i64 (j : Int) ∧ ov = .string s ∧ s.size ≤ 160 * j ∧ Hid (okF (l.take j) = true ∧ s = catF (l.take j)) ∧ Hid (Below w.heap.size w wr)) (fun _ iv _ => l.length - (intOf iv).toNat)
  case atStart => exact ⟨0, ⟨#[]⟩, Nat.zero_le _, rfl, rfl, Nat.le_refl _, ⟨rfl, rfl⟩, Below.refl _ _⟩
  case round =>
    obtain ⟨j, s, hj, rfl, rfl, hs, HS, HB⟩ := hrel
    by_cases hlt : j < l.length
    · have hlt' : (j : Int) < (l.length : Int) := by omega
      obtain ⟨g, o, rfl, hc⟩ := HC.out (by rintro rfl; simp at hlt)
      obtain ⟨ra, rc, hf⟩ := hc j hlt
      have hfw := hf.below HB.out
      have hbd := HLN.out _ (takeF l j hlt).2
      have HTK := Lib.hid (takeF l j hlt).1
      have HBAD := Lib.hid (okF_bad l j hlt)
      have HGOOD := Lib.hid (okF_take l j hlt HS.out.1)
      generalize l.getD j frD = f at *
      obtain ⟨c0, c1, c2, c3, c4, c5, hr⟩ := hfw
      have HR := Lib.hid hr
      have SV := Lib.hid (fun W h => sfok_any f (.slice ra f.rs.length rc) W h hbd.1 hbd.2)
      have SE := Lib.hid (fun W (h : Rngs W (.slice ra f.rs.length rc) f.rs) hf => senc_any f (.slice ra f.rs.length rc) W h hf)
      clear hf hc hr hbd
      unfold frV at SV SE
      go_wp2_with fail
      refine (SV.out _ HR.out).mono ?_
      rintro e w1 ⟨rfl, hb1⟩
      have hlg : g < wr.heap.size := World.block_lt_of_cell? wr _ c0
      have d0 := (hb1.cell (p := ⟨g, o + j * 6, none⟩) hlg).trans c0
      have d1 := (hb1.cell (p := ⟨g, o + j * 6 + 1, none⟩) hlg).trans c1
      have d2 := (hb1.cell (p := ⟨g, o + j * 6 + 2, none⟩) hlg).trans c2
      have d3 := (hb1.cell (p := ⟨g, o + j * 6 + 3, none⟩) hlg).trans c3
      have d4 := (hb1.cell (p := ⟨g, o + j * 6 + 4, none⟩) hlg).trans c4
      have d5 := (hb1.cell (p := ⟨g, o + j * 6 + 5, none⟩) hlg).trans c5
      have HR1 := Lib.hid (HR.out.below hb1)
      have HB1 := Lib.hid (HB.out.trans (hb1.mono HB.out.size))
      clear hb1
      cases hok : fok f
      · have HNO : Hid (fsok l = false) := Lib.hid (by unfold fsok; rw [HBAD.out hok]; rfl)
        clear hok
        go_wp2_with fail
        go_ret2
        exact FsPost.no HNO.out HB1.out
      · have HOK := Lib.hid hok
        have HEZ := fenc_size hok
        have HX : Hid (s ++ fenc f = catF (l.take (j + 1))) := Lib.hid (by rw [HTK.out, catF_app, ← HS.out.2, catF, catF, app_nil])
        have HG := Lib.hid (HGOOD.out hok)
        have SE1 := Lib.hid (fun W h => SE.out W h hok)
        clear hok SE
        generalize fenc f = t at *
        have hcat : ¬ 9223372036854775807 < s.size + t.size := by omega
        go_wp2_with fail
        refine (SE1.out _ HR1.out).mono ?_
        rintro e w2 ⟨rfl, hb2⟩
        have HB2 := Lib.hid (HB1.out.trans (hb2.mono HB1.out.size))
        clear hb2
        go_wp2_with fail
        go_roundw
        case rel => exact ⟨j + 1, s ++ t, by omega, by go_num, rfl, by rw [size_app]; omega, Lib.hid ⟨HG.out, HX.out⟩, HB2⟩
        case measure => simp [intOf]; omega
    · have hlt' : ¬ (j : Int) < (l.length : Int) := by omega
      have hte : l.take j = l := List.take_of_length_le (by omega)
      have HS2 := HS.out
      rw [hte] at HS2
      have HS3 := Lib.hid HS2
      clear HS2 hte
      by_cases h6 : 1 ≤ (l.length : Int) ∧ (l.length : Int) ≤ 6
      · have HD := Lib.hid (decide_eq_true h6)
        have HY : Hid (fsok l = true) := Lib.hid (by unfold fsok; rw [HS3.out.1, decide_eq_true (by omega)]; rfl)
        clear h6
        go_wp2_with fail
        refine (l6In_any _ _ _ _).mono ?_
        rw [HD.out]
        rintro e w1 ⟨rfl, rfl⟩
        go_wp2_with fail
        go_ret2
        exact FsPost.yes HY.out HS3.out.2 HB.out
      · have HD := Lib.hid (decide_eq_false h6)
        have HY : Hid (fsok l = false) := Lib.hid (by unfold fsok; rw [HS3.out.1, decide_eq_false (by omega)]; rfl)
        clear h6
        go_wp2_with fail
        refine (l6In_any _ _ _ _).mono ?_
        rw [HD.out]
        rintro e w1 ⟨rfl, rfl⟩
        go_wp2_with fail
        go_ret2
        exact FsPost.no HY.out HB.out
end Go.Proofs.Ythflokonihegbab
