/- Chapter 11, the model: Opened, Guards. -/
import Derived.Test.YtakfohcnclmkbabSDr
namespace Go.Proofs.Ytakfohcnclmkbab
open Go.RowKit
set_option linter.unusedVariables false
set_option linter.unusedSimpArgs false

noncomputable def opL (l : List Bx) (k : List Int) (m : Nat) : List Int := ((List.range m).filter (fun i => db l k (l.getD i (0, [])).1)).map (fun i : Nat => (i : Int))
theorem opL_succ {l : List Bx} {k : List Int} {m : Nat} : (db l k (l.getD m bxD).1 = true → opL l k (m + 1) = opL l k m ++ [(m : Int)]) ∧ (db l k (l.getD m bxD).1 = false → opL l k (m + 1) = opL l k m) := by
  unfold opL
  rw [List.range_succ, List.filter_append, List.map_append]
  constructor
  · intro h; rw [List.filter_cons_of_pos (by exact h)]; rfl
  · intro h; rw [List.filter_cons_of_neg (by show ¬ db l k (l.getD m bxD).1 = true; rw [h]; simp)]; simp
theorem opL_len (l : List Bx) (k : List Int) (m : Nat) : (opL l k m).length ≤ m := by
  unfold opL; rw [List.length_map]
  have := List.length_filter_le (fun i => db l k (l.getD i (0, [])).1) (List.range m)
  rw [List.length_range] at this; exact this
/-- Two rows of the call's own, the second the younger or far. -/
def Far2 (rv ov : Value) : Prop := rv.ownBlock = none ∨ rv.ownBlock ≠ ov.ownBlock
theorem Far2.next {w : World} {B s : Nat} {rv ov ov' : Value} {xs : List Int} (h : Far2 rv ov) (ho : OwnI w B rv xs) (hs : w.heap.size ≤ s) (hb : ov'.ownBlock = ov.ownBlock ∨ ov'.ownBlock = some s) : Far2 rv ov' := by
  rcases h with h | h
  · exact .inl h
  · rcases hb with e | e
    · exact .inr (by rw [e]; exact h)
    · cases hq : rv.ownBlock with
      | none => exact .inl hq
      | some g => exact .inr (by rw [hq, e]; have := (ho.lt hq).2; intro e; injection e; omega)

set_option maxRecDepth 100000 in
set_option maxHeartbeats 1000000 in
theorem sopened_any (v u : Value) (l : List Bx) (k : List Int) (w : World) (h : Bxs w v l) (hk : Ints w u k) (hl : l.length ≤ 1048576) (hlen : ∀ b ∈ l, b.2.length ≤ 1048576) (hkl : k.length ≤ 1048576) :
    Calls Try.prog 22 #[v, u] w (IntsPost w (openedL l k)) := by
  have SD := Lib.hid (fun W hW hK => sder_any v u l k W hW hK (by omega) hlen hkl)
  have HV := Lib.hid h
  have HU := Lib.hid hk
  have HO0 : Hid (OwnI (w.alloc (.cells #[] 3)) w.heap.size (.slice (some ⟨w.heap.size, 0, none⟩) 0 0) []) := Lib.hid (OwnI.new _ _ (Nat.le_refl _))
  have HB0 : Hid (Below w.heap.size w (w.alloc (.cells #[] 3))) := Lib.hid ((Below.refl _ _).alloc (Nat.le_refl _) _)
  have hsz : (w.alloc (.cells #[] 3)).heap.size = w.heap.size + 1 := by simp
  obtain ⟨a, c, rfl, hc⟩ := h
  obtain ⟨ka, kc, rfl, _⟩ := hk
  have HC := Lib.hid hc
  clear hlen hkl hc
  go_enter Try.func22, Try.ntmps22
  go_wp2_with fail
  refine (SD.out _ (HV.out.below HB0.out) (HU.out.below HB0.out)).mono ?_
  rintro e w1 ⟨rv, rfl, hb, hr⟩
  have HB1 : Hid (Below w.heap.size w w1) := Lib.hid (HB0.out.trans (hb.mono (by omega)))
  have HO1 : Hid (OwnI w1 w.heap.size (.slice (some ⟨w.heap.size, 0, none⟩) 0 0) []) := Lib.hid (HO0.out.below hb)
  have hsz1 : w.heap.size + 1 ≤ w1.heap.size := by have := hb.size; omega
  have HR1 := Lib.hid hr
  have HF1 : Hid (Far2 rv (.slice (some ⟨w.heap.size, 0, none⟩) 0 0)) := Lib.hid (by
    cases hq : rv.ownBlock with
    | none => exact .inl hq
    | some g => exact .inr (by rw [hq]; have := (hr.lt hq).1; simp only [Value.ownBlock]; intro e; injection e; omega))
  have HDL := Lib.hid (dl_len l k)
  obtain ⟨ra, rc, rfl⟩ := hr.shape
  clear hb hr HO0 HB0 hsz
  go_wp2_with fail
  go_loopw [5, 7] (fun ov iv wr => ∃ m : Nat, m ≤ l.length ∧ iv = .int .i64 (m : Int) ∧ Hid (Below w.heap.size w wr) ∧ Hid (OwnI wr w.heap.size ov (opL l k m)) ∧ Hid (OwnI wr w.heap.size (.slice ra (dl l k).length rc) (dl l k)) ∧ Hid (Far2 (.slice ra (dl l k).length rc) ov) ∧ Hid (w.heap.size ≤ wr.heap.size)) (fun _ iv _ => l.length - (intOf iv).toNat)
  case atStart => exact ⟨0, Nat.zero_le _, rfl, HB1, HO1, Lib.hid (HR1.out.base (by simp)), HF1, Lib.hid HB1.out.size⟩
  case round =>
    clear HB1 HO1 HR1 HF1
    obtain ⟨m, hm, rfl, HB, HO, HR, HF, HZ⟩ := hrel
    obtain ⟨oa, oc, rfl⟩ := HO.out.shape
    by_cases hlt : m < l.length
    · have hlt' : (m : Int) < (l.length : Int) := by omega
      obtain ⟨g, o, rfl, hc⟩ := HC.out (by rintro rfl; simp at hlt)
      obtain ⟨ba, bc, hf⟩ := hc m hlt
      have hg := World.block_lt_of_cell? w _ hf.1
      have HS := Lib.hid (opL_succ (l := l) (k := k) (m := m))
      have HLN := Lib.hid (opL_len l k m)
      clear hc
      generalize opL l k m = acc at *
      generalize l.getD m bxD = b at *
      obtain ⟨key, ins⟩ := b
      have e1 := (HB.out.cell (p := ⟨g, o + m * 2, none⟩) hg).trans hf.1
      clear hf
      have HD : Hid (decide (key ∈ dl l k) = db l k key) := Lib.hid (by rw [Bool.eq_iff_iff, decide_eq_true_iff, mem_dl, db_iff])
      go_wp2_with fail
      refine (shas_any _ (dl l k) key wr HR.out.ints (by have := HDL.out; omega)).mono ?_
      rw [HD.out]
      rintro e w2 ⟨rfl, hb⟩
      have HB2 : Hid (Below w.heap.size w w2) := Lib.hid (HB.out.trans (hb.mono HZ.out))
      have HO2 := Lib.hid (HO.out.below hb)
      have HR2 := Lib.hid (HR.out.below hb)
      have HZ2 : Hid (w.heap.size ≤ w2.heap.size) := Lib.hid HB2.out.size
      clear hb
      cases hq : db l k key with
      | true =>
        have HS2 := Lib.hid (HS.out.1 hq)
        clear hq HS
        go_wp2_with (at_builtin; refine wpList_app_int _ rfl _ _ rfl w.heap.size _ acc rfl HO2.out _ _ _ rfl (by simp) ?c1 ?c2 ?_)
        case c1 => have := HLN.out; omega
        case c2 => exact HZ2.out
        intro v' w4 ho hgr hbk
        have HB4 : Hid (Below w.heap.size w w4) := Lib.hid (OwnI.grown_below HB2.out HO2.out HZ2.out hgr)
        have HO4 := Lib.hid ho
        have HR4 := Lib.hid ((HR2.out.alloc (.cells #[.int .i64 (m : Int)] 3)).kept hgr HF.out)
        have HF4 := Lib.hid (HF.out.next HR2.out (Nat.le_succ _) hbk)
        clear ho hgr hbk
        go_wp2_with fail
        go_roundw
        case rel => exact ⟨m + 1, by omega, by go_num, HB4, by rw [HS2.out]; exact HO4, HR4, HF4, Lib.hid HB4.out.size⟩
        case measure => simp [intOf]; omega
      | false =>
        have HS2 := Lib.hid (HS.out.2 hq)
        clear hq HS
        go_wp2_with fail
        go_roundw
        case rel => exact ⟨m + 1, by omega, by go_num, HB2, by rw [HS2.out]; exact HO2, HR2, HF, HZ2⟩
        case measure => simp [intOf]; omega
    · have hlt' : ¬ (m : Int) < (l.length : Int) := by omega
      have HE : Hid (opL l k m = openedL l k) := Lib.hid (by rw [show m = l.length by omega]; rfl)
      go_wp2_with fail
      go_ret
      exact ⟨_, rfl, HB.out, by rw [← HE.out]; exact HO.out⟩

theorem guards_no {l : List Bx} {k : List Int} {n : Int} (h : db l k n = false) : guardsL l k n = [] := by unfold guardsL; rw [h]; rfl
theorem guards_yes {l : List Bx} {k : List Int} {n : Int} (h : db l k n = true) : guardsL l k n = (upto 20).filter (fun g => !db (without l g) k n) := by unfold guardsL; rw [if_pos h]
theorem bsok_without {l : List Bx} (g : Int) (h : bsok l = true) : bsok (without l g) = true := by
  obtain ⟨h1, h2⟩ := bsok_iff.1 h
  refine bsok_iff.2 ⟨Nat.le_trans (List.length_filter_le _ _) h1, fun b hb => h2 b (mem_without.1 hb).1⟩
theorem hasA_db {l : List Bx} {k : List Int} (hl : bsok l = true) (hk : kok k = true) (g n : Int) (hn : 0 ≤ n) : (hasA l k g).getD n.toNat false = db (without l g) k n := by
  have h := hasA_iff g hl hk hn
  unfold at' at h
  rw [Bool.eq_iff_iff, h, db_iff]
  exact ⟨fun h => ⟨⟨bsok_without g hl, hk⟩, h⟩, fun h => h.2⟩

set_option maxRecDepth 100000 in
set_option maxHeartbeats 1000000 in
theorem sguards_any (v u : Value) (l : List Bx) (k : List Int) (n : Int) (w : World) (h : Bxs w v l) (hk : Ints w u k) (hl : l.length ≤ 1048576) (hlen : ∀ b ∈ l, b.2.length ≤ 1048576) (hkl : k.length ≤ 1048576) :
    Calls Try.prog 24 #[v, u, .int .i64 n] w (IntsPost w (guardsL l k n)) := by
  have SD := Lib.hid (fun W hW hK => sdble_any v u l k n W hW hK (by omega) hlen hkl)
  have SV := Lib.hid (fun s W hW hK h1 h2 => sderive_any v u l k s W hW hK h1 h2)
  have HV := Lib.hid h
  have HU := Lib.hid hk
  have HO0 : Hid (OwnI (w.alloc (.cells #[] 3)) w.heap.size (.slice (some ⟨w.heap.size, 0, none⟩) 0 0) []) := Lib.hid (OwnI.new _ _ (Nat.le_refl _))
  have HB0 : Hid (Below w.heap.size w (w.alloc (.cells #[] 3))) := Lib.hid ((Below.refl _ _).alloc (Nat.le_refl _) _)
  have hsz : (w.alloc (.cells #[] 3)).heap.size = w.heap.size + 1 := by simp
  obtain ⟨a, c, rfl, _⟩ := h
  obtain ⟨ka, kc, rfl, _⟩ := hk
  clear hlen hkl
  go_enter Try.func24, Try.ntmps24
  go_wp2_with fail
  refine (SD.out _ (HV.out.below HB0.out) (HU.out.below HB0.out)).mono ?_
  rintro e w1 ⟨rfl, hb⟩
  have HB1 : Hid (Below w.heap.size w w1) := Lib.hid (HB0.out.trans (hb.mono (by omega)))
  have HO1 : Hid (OwnI w1 w.heap.size (.slice (some ⟨w.heap.size, 0, none⟩) 0 0) []) := Lib.hid (HO0.out.below hb)
  have hsz1 : w.heap.size + 1 ≤ w1.heap.size := by have := hb.size; omega
  clear hb HO0 HB0 hsz
  cases hq : db l k n with
  | false =>
    have HE := Lib.hid (guards_no hq)
    clear hq
    go_wp2_with fail
    go_ret
    exact ⟨_, rfl, HB1.out, by rw [HE.out]; exact HO1.out⟩
  | true =>
    have HE := Lib.hid (guards_yes hq)
    have hD := db_iff.1 hq
    have HL1 := Lib.hid hD.1.1
    have HK1 := Lib.hid hD.1.2
    obtain ⟨hn1, hn2⟩ := hD.atom
    clear hD hq
    go_wp2_with fail
    go_loopw [7, 8] (fun ov iv wr => ∃ m : Nat, m ≤ 20 ∧ iv = .int .i64 ((m : Int) + 1) ∧ Hid (Below w.heap.size w wr) ∧ Hid (OwnI wr w.heap.size ov ((upto m).filter (fun g => !db (without l g) k n)))) (fun _ iv _ => 21 - (intOf iv).toNat)
    case atStart => exact ⟨0, Nat.zero_le _, rfl, HB1, HO1⟩
    case round =>
      clear HB1 HO1
      obtain ⟨m, hm, rfl, HB, HO⟩ := hrel
      obtain ⟨oa, oc, rfl⟩ := HO.out.shape
      by_cases hlt : m < 20
      · have hlt' : (m : Int) + 1 ≤ 20 := by omega
        have HS := Lib.hid (fupto_succ (p := fun g => !db (without l g) k n) (m := m))
        have HLN := Lib.hid (fupto_len (fun g => !db (without l g) k n) m)
        generalize (upto m).filter (fun g => !db (without l g) k n) = acc at *
        go_wp2_with fail
        refine (SV.out ((m : Int) + 1) wr (HV.out.below HB.out) (HU.out.below HB.out) HL1.out HK1.out).mono ?_
        rintro e w2 ⟨g, rfl, hb, hr⟩
        have HB2 : Hid (Below w.heap.size w w2) := Lib.hid (HB.out.trans (hb.mono HB.out.size))
        have HO2 := Lib.hid (HO.out.below hb)
        have e1 := (hr.at n.toNat (by omega)).1
        rw [hasA_db HL1.out HK1.out _ n (by omega)] at e1
        have hn3 : 0 ≤ n := by omega
        have hn4 : n < 21 := by omega
        clear hb hr
        cases hq : db (without l ((m : Int) + 1)) k n with
        | false =>
          rw [hq] at e1
          have HS2 := Lib.hid (HS.out.1 (by rw [hq]; rfl))
          clear hq HS
          go_wp2_with (at_builtin; refine wpList_app_int _ rfl _ _ rfl w.heap.size _ acc rfl HO2.out _ _ _ rfl (by simp) ?c1 ?c2 ?_)
          case c1 => have := HLN.out; omega
          case c2 => exact HB2.out.size
          intro v' w4 ho hgr hbk
          have HB4 : Hid (Below w.heap.size w w4) := Lib.hid (OwnI.grown_below HB2.out HO2.out HB2.out.size hgr)
          have HO4 := Lib.hid ho
          clear ho hgr hbk
          go_wp2_with fail
          go_roundw
          case rel => exact ⟨m + 1, by omega, by go_num, HB4, by rw [HS2.out]; exact HO4⟩
          case measure => simp [intOf]; omega
        | true =>
          rw [hq] at e1
          have HS2 := Lib.hid (HS.out.2 (by rw [hq]; rfl))
          clear hq HS
          go_wp2_with fail
          go_roundw
          case rel => exact ⟨m + 1, by omega, by go_num, HB2, by rw [HS2.out]; exact HO2⟩
          case measure => simp [intOf]; omega
      · have hlt' : ¬ (m : Int) + 1 ≤ 20 := by omega
        have HE2 : Hid ((upto m).filter (fun g => !db (without l g) k n) = guardsL l k n) := Lib.hid (by rw [show m = 20 by omega, HE.out])
        go_wp2_with fail
        go_ret
        exact ⟨_, rfl, HB.out, by rw [← HE2.out]; exact HO.out⟩

end Go.Proofs.Ytakfohcnclmkbab
