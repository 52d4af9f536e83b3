/- Chapter 11, the model: Derive, Derivable. -/
import Derived.Test.YtakfohcnclmkbabSDv
import Derived.Test.YtakfohcnclmkbabOwnI
namespace Go.Proofs.Ytakfohcnclmkbab
open Go.RowKit
set_option linter.unusedVariables false
set_option linter.unusedSimpArgs false

def IntsPost (w : World) (xs : List Int) (e : Ending) (w' : World) : Prop := ∃ v, e = .returned v ∧ Below w.heap.size w w' ∧ OwnI w' w.heap.size v xs
theorem not_both1 {a b : Bool} (h : a = false) : ¬ (a = true ∧ b = true) := by rw [h]; simp
theorem not_both2 {a b : Bool} (h : b = false) : ¬ (a = true ∧ b = true) := by rw [h]; simp
theorem fupto_succ {p : Int → Bool} {m : Nat} : (p ((m : Int) + 1) = true → (upto (m + 1)).filter p = (upto m).filter p ++ [(m : Int) + 1]) ∧ (p ((m : Int) + 1) = false → (upto (m + 1)).filter p = (upto m).filter p) := by
  rw [upto_succ, List.filter_append]
  constructor
  · intro h; rw [List.filter_cons_of_pos h]; rfl
  · intro h; rw [List.filter_cons_of_neg (by rw [h]; simp)]; simp
theorem fupto_len (p : Int → Bool) (m : Nat) : ((upto m).filter p).length ≤ m := by
  have := List.length_filter_le p (upto m)
  rw [upto_len] at this; exact this
theorem has_db {l : List Bx} {k : List Int} (hl : bsok l = true) (hk : kok k = true) {n : Nat} : (hasA l k 0).getD (n + 1) false = db l k ((n : Int) + 1) := by
  have h := hasA_iff 0 hl hk (n := (n : Int) + 1) (by omega)
  rw [without_zero hl] at h
  unfold at' at h
  rw [show ((n : Int) + 1).toNat = n + 1 by omega] at h
  have e : db l k ((n : Int) + 1) = true ↔ Der l k ((n : Int) + 1) := db_iff.trans ⟨fun h => h.2, fun h => ⟨⟨hl, hk⟩, h⟩⟩
  rw [Bool.eq_iff_iff, h, e]

set_option maxRecDepth 100000 in
set_option maxHeartbeats 1000000 in
theorem sder_any (v u : Value) (l : List Bx) (k : List Int) (w : World) (h : Bxs w v l) (hk : Ints w u k) (hl : l.length ≤ 1048576) (hlen : ∀ b ∈ l, b.2.length ≤ 1048576) (hkl : k.length ≤ 1048576) :
    Calls Try.prog 13 #[v, u] w (IntsPost w (dl l k)) := by
  have SB := Lib.hid (fun W hW => sboxes_any v l W hW hl hlen)
  have SK := Lib.hid (fun W hW => sknown_any u k W hW hkl)
  have SD := Lib.hid (fun W hW hK h1 h2 => sderive_any v u l k 0 W hW hK h1 h2)
  have HV := Lib.hid h
  have HU := Lib.hid hk
  have HO0 : Hid (OwnI (w.alloc (.cells #[] 3)) w.heap.size (.slice (some ⟨w.heap.size, 0, none⟩) 0 0) []) := Lib.hid (OwnI.new _ _ (Nat.le_refl _))
  have HB0 : Hid (Below w.heap.size w (w.alloc (.cells #[] 3))) := Lib.hid ((Below.refl _ _).alloc (Nat.le_refl _) _)
  have hsz : (w.alloc (.cells #[] 3)).heap.size = w.heap.size + 1 := by simp
  obtain ⟨a, c, rfl, _⟩ := h
  obtain ⟨ka, kc, rfl, _⟩ := hk
  clear hl hlen hkl
  go_enter Try.func13, Try.ntmps13
  go_wp2_with fail
  refine (SB.out _ (HV.out.below HB0.out)).mono ?_
  rintro e w1 ⟨rfl, hb⟩
  have HB1 : Hid (Below w.heap.size w w1) := Lib.hid (HB0.out.trans (hb.mono (by omega)))
  have HO1 : Hid (OwnI w1 w.heap.size (.slice (some ⟨w.heap.size, 0, none⟩) 0 0) []) := Lib.hid (HO0.out.below hb)
  have hsz1 : w.heap.size + 1 ≤ w1.heap.size := by have := hb.size; omega
  clear hb HO0 HB0 hsz
  cases hq : bsok l with
  | false =>
    have HE := Lib.hid (dl_invalid (l := l) (k := k) (not_both1 hq))
    clear hq
    go_wp2_with fail
    go_ret
    exact ⟨_, rfl, HB1.out, by rw [HE.out]; exact HO1.out⟩
  | true =>
    have HQ := Lib.hid hq
    clear hq
    go_wp2_with fail
    refine (SK.out _ (HU.out.below HB1.out)).mono ?_
    rintro e w2 ⟨rfl, hb⟩
    have HB2 : Hid (Below w.heap.size w w2) := Lib.hid (HB1.out.trans (hb.mono (by omega)))
    have HO2 : Hid (OwnI w2 w.heap.size (.slice (some ⟨w.heap.size, 0, none⟩) 0 0) []) := Lib.hid (HO1.out.below hb)
    have hsz2 : w.heap.size + 1 ≤ w2.heap.size := by have := hb.size; omega
    clear hb HO1 HB1 hsz1
    cases hq : kok k with
    | false =>
      have HE := Lib.hid (dl_invalid (l := l) (k := k) (not_both2 hq))
      clear hq
      go_wp2_with fail
      go_ret
      exact ⟨_, rfl, HB2.out, by rw [HE.out]; exact HO2.out⟩
    | true =>
      have HQ2 := Lib.hid hq
      clear hq
      go_wp2_with fail
      refine (SD.out _ (HV.out.below HB2.out) (HU.out.below HB2.out) HQ.out HQ2.out).mono ?_
      rintro e w3 ⟨g, rfl, hb, hr⟩
      have HB3 : Hid (Below w.heap.size w w3) := Lib.hid (HB2.out.trans (hb.mono (by omega)))
      have HO3 : Hid (OwnI w3 w.heap.size (.slice (some ⟨w.heap.size, 0, none⟩) 0 0) []) := Lib.hid (HO2.out.below hb)
      have hg : w.heap.size + 1 ≤ g := by have := (World.ownsRow.lt hr.2 g rfl).1; omega
      have HC : Hid (∀ n : Nat, n < 20 → w3.cell? ⟨g, n + 1, none⟩ = some (.bool (db l k ((n : Int) + 1)))) := Lib.hid fun n hn => by rw [← has_db HQ.out HQ2.out]; exact (hr.at (n + 1) (by omega)).1
      have hg3 : g < w3.heap.size := (World.ownsRow.lt hr.2 g rfl).2
      clear hb hr HO2 HB2 hsz2
      go_wp2_with fail
      go_loopw [5, 7] (fun ov iv wr => ∃ m : Nat, m ≤ 20 ∧ iv = .int .i64 ((m : Int) + 1) ∧ Hid (Below w.heap.size w wr) ∧ Hid (OwnI wr w.heap.size ov ((upto m).filter (db l k))) ∧ Hid (ov.ownBlock ≠ some g) ∧ Hid (∀ n : Nat, n < 20 → wr.cell? ⟨g, n + 1, none⟩ = some (.bool (db l k ((n : Int) + 1)))) ∧ g < wr.heap.size ∧ Hid (w.heap.size ≤ wr.heap.size)) (fun _ iv _ => 21 - (intOf iv).toNat)
      case atStart => exact ⟨0, Nat.zero_le _, rfl, HB3, HO3, Lib.hid (by simp [Value.ownBlock]; omega), HC, hg3, Lib.hid HB3.out.size⟩
      case round =>
        clear HB3 HO3 HC hg3
        obtain ⟨m, hm, rfl, HB, HO, HN, HC, hg3, HZ⟩ := hrel
        obtain ⟨oa, oc, rfl⟩ := HO.out.shape
        by_cases hlt : m < 20
        · have hlt' : (m : Int) + 1 ≤ 20 := by omega
          have e1 := HC.out m hlt
          have HS := Lib.hid (fupto_succ (p := db l k) (m := m))
          have HLN := Lib.hid (fupto_len (db l k) m)
          generalize (upto m).filter (db l k) = acc at *
          cases hq : db l k ((m : Int) + 1) with
          | true =>
            rw [hq] at e1
            have HS2 := Lib.hid (HS.out.1 hq)
            clear hq HS
            go_wp2_with (at_builtin; refine wpList_app_int _ rfl _ _ rfl w.heap.size _ acc rfl HO.out _ _ _ rfl (by simp) ?c1 ?c2 ?_)
            case c1 => have := HLN.out; omega
            case c2 => exact HZ.out
            intro v' w4 ho hgr hbk
            have HB4 : Hid (Below w.heap.size w w4) := Lib.hid (OwnI.grown_below HB.out HO.out HZ.out hgr)
            have HO4 := Lib.hid ho
            have hs4 : wr.heap.size + 1 ≤ w4.heap.size := by have := hgr.size; simpa using this
            have HN4 : Hid (v'.ownBlock ≠ some g) := by
              rcases hbk with e | e
              · rw [e]; exact HN
              · rw [e]; exact Lib.hid (by intro e; injection e; omega)
            have HC4 : Hid (∀ n : Nat, n < 20 → w4.cell? ⟨g, n + 1, none⟩ = some (.bool (db l k ((n : Int) + 1)))) := Lib.hid fun n hn => by
              rw [World.cell?_of_block (hgr.block g (by simp; omega) (fun e => HN.out e.symm)), ← HC.out n hn]
              exact World.cell?_of_block (((Below.refl wr.heap.size wr).alloc (Nat.le_refl _) _).block g hg3)
            clear ho hgr hbk
            go_wp2_with fail
            go_roundw
            case rel => exact ⟨m + 1, by omega, by go_num, HB4, by rw [HS2.out]; exact HO4, HN4, HC4, by omega, Lib.hid HB4.out.size⟩
            case measure => simp [intOf]; omega
          | false =>
            rw [hq] at e1
            have HS2 := Lib.hid (HS.out.2 hq)
            clear hq HS
            go_wp2_with fail
            go_roundw
            case rel => exact ⟨m + 1, by omega, by go_num, HB, by rw [HS2.out]; exact HO, HN, HC, hg3, HZ⟩
            case measure => simp [intOf]; omega
        · have hlt' : ¬ (m : Int) + 1 ≤ 20 := by omega
          have HE : Hid ((upto m).filter (db l k) = dl l k) := Lib.hid (by rw [show m = 20 by omega]; rfl)
          go_wp2_with fail
          go_ret
          exact ⟨_, rfl, HB.out, by rw [← HE.out]; exact HO.out⟩

set_option maxRecDepth 100000 in
set_option maxHeartbeats 1000000 in
theorem sdble_any (v u : Value) (l : List Bx) (k : List Int) (n : Int) (w : World) (h : Bxs w v l) (hk : Ints w u k) (hl : l.length ≤ 1048576) (hlen : ∀ b ∈ l, b.2.length ≤ 1048576) (hkl : k.length ≤ 1048576) :
    Calls Try.prog 20 #[v, u, .int .i64 n] w fun e w' => e = .returned (.bool (db l k n)) ∧ Below w.heap.size w w' := by
  have SD := Lib.hid (sder_any v u l k w h hk hl hlen hkl)
  obtain ⟨a, c, rfl, _⟩ := h
  obtain ⟨ka, kc, rfl, _⟩ := hk
  clear hl hlen hkl
  go_enter Try.func20, Try.ntmps20
  go_wp2_with fail
  refine SD.out.mono ?_
  rintro e w1 ⟨r, rfl, hb, ho⟩
  obtain ⟨ra, rc, rfl⟩ := ho.shape
  have HB := Lib.hid hb
  have HL := Lib.hid (dl_len l k)
  have SH := Lib.hid (shas_any _ (dl l k) n w1 ho.ints (by have := dl_len l k; omega))
  clear hb ho
  go_wp2_with fail
  refine SH.out.mono ?_
  rintro e w2 ⟨rfl, hb⟩
  have HB2 := Lib.hid (HB.out.trans (hb.mono HB.out.size))
  clear hb
  go_wp2_with fail
  go_ret
  refine BoolPost' ?_ HB2.out
  rw [Bool.eq_iff_iff, decide_eq_true_iff, mem_dl, db_iff]

end Go.Proofs.Ytakfohcnclmkbab
