/- The program's WindowIncrease, WindowAck, WindowLoss. -/
import Derived.Test.YtfggldholaibeaaWWith
import Derived.Deep.RegionLaw
namespace Go.Proofs.Ytfggldholaibeaa
open Go.RowKit
set_option linter.unusedVariables false
set_option linter.unusedSimpArgs false

/-- A variable that holds the array of l, and may be written. -/
structure Blk (w W : World) (b : Nat) (l : List Wd) : Prop where
  wn : Wn W b l
  fz : ∀ k, W.frozen? ⟨b, k, none⟩ = false
  up : Below w.heap.size w W
  hb : w.heap.size ≤ b
theorem Blk.below {w W W' : World} {b : Nat} {l : List Wd} (h : Blk w W b l) (hb : Below W.heap.size W W') : Blk w W' b l :=
  ⟨h.wn.below hb, fun k => (hb.frozen (p := ⟨b, k, none⟩) h.wn.lt).trans (h.fz k), h.up.trans (hb.mono h.up.size), h.hb⟩
theorem Blk.upd {w W W' : World} {b i : Nat} {l : List Wd} {p : Wd} (h : Blk w W b l) (hl : l.length ≤ 4) (hi : i < l.length) (u : Upd W W' b (i * 4) p) : Blk w W' b (l.set i p) :=
  ⟨h.wn.upd hl hi u, fun k => (u.fr k).trans (h.fz k), h.up.trans ((u.off.below (Nat.le_refl _)).mono h.hb), h.hb⟩
theorem Blk.new {w W : World} {l : List Wd} (hl : l.length ≤ 4) (hb : Below w.heap.size w W) : (W.alloc (.cells zW 45)).there W.heap.size 0 17 ∧ Blk w ((W.alloc (.cells zW 45)).setCells W.heap.size 0 (wcs l)) W.heap.size l := by
  have T := there_heap (heap_alloc_last W (.cells zW 45)) 17 (by simp)
  refine ⟨T, Wn.of (World.rangeAt_setCells_same _ _ _ _ (by rw [wcs_len hl]; exact T)) hl, fun k => ?_, below_setCells _ _ _ (hb.alloc hb.size _) hb.size, hb.size⟩
  rw [World.frozen?_setCells]
  exact World.frozen?_alloc_at _ _ _ k rfl
theorem below_put0 {w W : World} (hb : Below w.heap.size w W) : (W.alloc (.cells zW 45)).there W.heap.size 0 17 ∧ Below w.heap.size w ((W.alloc (.cells zW 45)).setCells W.heap.size 0 zW.toList) :=
  ⟨there_heap (heap_alloc_last W (.cells zW 45)) 17 (by simp), below_setCells _ _ _ (hb.alloc hb.size _) hb.size⟩

set_option maxRecDepth 100000 in
set_option maxHeartbeats 4000000 in
theorem iwi_any (v : Value) (l : List Wd) (i : Int) (w : World) (h : Wds w v l) (hl : l.length ≤ 1048576) : Calls Try.prog 14 #[v, .int .i64 i] w (GotI w (wincv l i)) := by
  by_cases hat : wat l i
  · have CW := Lib.hid (with_yes v l i w h hat)
    obtain ⟨a, c, rfl, _, _⟩ := h
    have HE : Hid (wincv l i = winc l (l.getD i.toNat wdD)) := Lib.hid (if_pos hat)
    have hl4 := hat.1.1.2
    have CI : Hid (∀ W b, Blk w W b l → Calls Try.prog 32 #[.pointer (some ⟨b, 0, none⟩), .int .i64 i] W (GotI W (winc l (l.getD i.toNat wdD)))) := Lib.hid fun W b B => by
      have k := iinc_any b l i.toNat W B.wn hat.1 (at_ok hat).1
      rwa [show ((i.toNat : Nat) : Int) = i by have := hat.2; omega] at k
    rw [HE.out]
    clear hat
    go_enter Try.func14, Try.ntmps14
    go_wp2_with (with_reducible refine at_st ?_)
    refine CW.out.mono ?_
    rintro e W1 ⟨rfl, hb⟩
    obtain ⟨hT, hB⟩ := Blk.new (l := l) hl4 hb
    have HT := Lib.hid hT
    have HB := Lib.hid hB
    clear hb hT hB
    have hs17 : Hid ((wcs l).toArray.size = 17) := Lib.hid (by simpa using wcs_len hl4)
    go_wp2_with (with_reducible refine at_st ?_)
    refine unhold ?_
    refine wpList_store_mid rfl 45 _ _ rfl W1.heap.size 0 (wcs l).toArray rfl rfl (by rw [hs17.out]; exact HT.out) (by rw [hs17.out]; exact info17) (all_oneCell_toArray (wcs_one l)) ?_
    rw [List.toList_toArray]
    generalize (W1.alloc (.cells zW 45)).setCells W1.heap.size 0 (wcs l) = W2 at HB ⊢
    clear HT
    generalize W1.heap.size = b at HB ⊢
    have CI2 := Lib.hid (CI.out W2 b HB.out)
    go_wp2_with fail
    refine CI2.out.mono ?_
    rintro e W3 ⟨rfl, hb⟩
    have B3 := Lib.hid (HB.out.up.trans (hb.mono HB.out.up.size))
    clear hb
    go_wp2_with fail
    go_ret
    exact ⟨rfl, B3.out⟩
  · have CW := Lib.hid (with_no v l i w h hl hat)
    obtain ⟨a, c, rfl, _, _⟩ := h
    have HE : Hid (wincv l i = -1) := Lib.hid (if_neg hat)
    rw [HE.out]
    clear hat
    go_enter Try.func14, Try.ntmps14
    go_wp2_with (with_reducible refine at_st ?_)
    refine CW.out.mono ?_
    rintro e W1 ⟨rfl, hb⟩
    obtain ⟨hT, hB⟩ := below_put0 hb
    have HT := Lib.hid hT
    have HB := Lib.hid hB
    clear hb hT hB
    go_wp2_with (with_reducible refine at_st ?_)
    refine unhold ?_
    refine wpList_store_mid rfl 45 _ _ rfl W1.heap.size 0 zW rfl rfl HT.out info17 zW_one ?_
    generalize (W1.alloc (.cells zW 45)).setCells W1.heap.size 0 zW.toList = W2 at HB ⊢
    go_wp2_with fail
    go_ret
    exact ⟨rfl, HB.out⟩


set_option maxRecDepth 100000 in
set_option maxHeartbeats 4000000 in
theorem iwa_any (v : Value) (l : List Wd) (i : Int) (w : World) (h : Wds w v l) (hl : l.length ≤ 1048576) : Calls Try.prog 16 #[v, .int .i64 i] w (GotWs w (wackv l i) (decide (wat l i))) := by
  by_cases hat : wat l i
  · have CW := Lib.hid (with_yes v l i w h hat)
    obtain ⟨a, c, rfl, _, _⟩ := h
    have HE : Hid (wackv l i = wack l i.toNat) := Lib.hid (if_pos hat)
    rw [decide_eq_true hat]
    obtain ⟨k, rfl⟩ := Int.eq_ofNat_of_zero_le hat.2.1
    rw [HE.out]
    simp only [Int.toNat_natCast]
    have hl4 := hat.1.1.2
    have hk : k < l.length := by have := hat.2; omega
    have hk4 : (k : Int) < 4 := by omega
    have HAT := Lib.hid hat
    have hs17 : Hid ((wcs l).toArray.size = 17) := Lib.hid (by simpa using wcs_len hl4)
    clear hat HE
    go_enter Try.func16, Try.ntmps16
    go_wp2_with (with_reducible refine at_st ?_)
    refine CW.out.mono ?_
    rintro e W1 ⟨rfl, hb⟩
    obtain ⟨hT, hB⟩ := Blk.new (l := l) hl4 hb
    have HT := Lib.hid hT
    have HB := Lib.hid hB
    clear hb hT hB
    go_wp2_with (with_reducible refine at_st ?_)
    refine unhold ?_
    refine wpList_store_mid rfl 45 _ _ rfl W1.heap.size 0 (wcs l).toArray rfl rfl (by rw [hs17.out]; exact HT.out) (by rw [hs17.out]; exact info17) (all_oneCell_toArray (wcs_one l)) ?_
    rw [List.toList_toArray]
    generalize (W1.alloc (.cells zW 45)).setCells W1.heap.size 0 (wcs l) = W2 at HB ⊢
    clear HT
    generalize W1.heap.size = b at HB ⊢
    go_wp2_with fail
    have HB3 := Lib.hid (HB.out.below (Below.refl _ _).drew)
    clear HB
    have CI := Lib.hid (iinc_any b l k W2.drew HB3.out.wn HAT.out.1 hk)
    have CA : Hid (∀ W4, Blk w W4 b l → Calls Try.prog 34 #[.pointer (some ⟨b, k * 4, none⟩), .int .i64 (winc l (l.getD k wdD))] W4 (Wrote W4 b (k * 4) (ack1 (winc l (l.getD k wdD)) (l.getD k wdD)))) := Lib.hid fun W4 HB4 => by
      have hp := (at_ok HAT.out).2
      have h1 := winc_bd HAT.out.1 hp
      have h2 := HB4.wn.rows k hk
      simp only [Int.toNat_natCast] at hp h1
      generalize winc l (l.getD k wdD) = n at h1 ⊢
      generalize l.getD k wdD = p at hp h1 h2 ⊢
      obtain ⟨x, y, z, t⟩ := p
      exact ack_any b (k * 4) x y z t n W4 h2 HB4.fz hp (by omega)
    have HL : Hid (l.set k (ack1 (winc l (l.getD k wdD)) (l.getD k wdD)) = wack l k) := Lib.hid rfl
    generalize winc l (l.getD k wdD) = n at CA CI HL ⊢
    go_region_law ((first
        | (go_simp; (with_reducible refine (CA.out _ HB4.out).mono ?_); rintro e W5 ⟨rfl, hu⟩)
        | (go_simp; (with_reducible refine CI.out.mono ?_); rintro e W4 ⟨rfl, hb⟩; have HB4 := Lib.hid (HB3.out.below hb); clear hb)))
    all_goals skip
    have HB5 := Lib.hid (HB4.out.upd hl4 hk hu)
    have CL := Lib.hid (list_any b _ W5 HB5.out.wn (by rw [List.length_set]; exact hl4))
    clear hu HB4
    go_wp2_with fail
    refine CL.out.mono ?_
    rintro e W6 ⟨v', rfl, h1, h2, h3⟩
    have E1 := Lib.hid (OwnW.lower h1 HB5.out.up.size)
    have E2 := Lib.hid h2
    have E3 := Lib.hid (HB5.out.up.trans (h3.mono HB5.out.up.size))
    obtain ⟨aa, cc, hv⟩ := h1.shape
    rw [List.length_set] at hv
    subst hv
    rw [HL.out] at E1
    clear h1 h2 h3
    go_wp2_with fail
    go_ret2
    exact ⟨.slice aa l.length cc, rfl, E1.out, fun _ => E2.out, E3.out⟩
  · have CW := Lib.hid (with_no v l i w h hl hat)
    obtain ⟨a, c, rfl, _, _⟩ := h
    have HE : Hid (wackv l i = []) := Lib.hid (if_neg hat)
    rw [HE.out, decide_eq_false hat]
    clear hat
    go_enter Try.func16, Try.ntmps16
    go_wp2_with (with_reducible refine at_st ?_)
    refine CW.out.mono ?_
    rintro e W1 ⟨rfl, hb⟩
    obtain ⟨hT, hB⟩ := below_put0 hb
    have HT := Lib.hid hT
    have HB := Lib.hid hB
    clear hb hT hB
    go_wp2_with (with_reducible refine at_st ?_)
    refine unhold ?_
    refine wpList_store_mid rfl 45 _ _ rfl W1.heap.size 0 zW rfl rfl HT.out info17 zW_one ?_
    generalize (W1.alloc (.cells zW 45)).setCells W1.heap.size 0 zW.toList = W2 at HB ⊢
    go_wp2_with fail
    go_ret2
    exact ⟨.slice none 0 0, rfl, OwnW.nil _ _, (fun h => by cases h), HB.out⟩

set_option maxRecDepth 100000 in
set_option maxHeartbeats 4000000 in
theorem iwl_any (v : Value) (l : List Wd) (i : Int) (w : World) (h : Wds w v l) (hl : l.length ≤ 1048576) : Calls Try.prog 20 #[v, .int .i64 i] w (GotWs w (wlossv l i) (decide (wat l i))) := by
  by_cases hat : wat l i
  · have CW := Lib.hid (with_yes v l i w h hat)
    obtain ⟨a, c, rfl, _, _⟩ := h
    have HE : Hid (wlossv l i = wloss l i.toNat) := Lib.hid (if_pos hat)
    rw [decide_eq_true hat]
    obtain ⟨k, rfl⟩ := Int.eq_ofNat_of_zero_le hat.2.1
    rw [HE.out]
    simp only [Int.toNat_natCast]
    have hl4 := hat.1.1.2
    have hk : k < l.length := by have := hat.2; omega
    have hk4 : (k : Int) < 4 := by omega
    have HAT := Lib.hid hat
    have hs17 : Hid ((wcs l).toArray.size = 17) := Lib.hid (by simpa using wcs_len hl4)
    clear hat HE
    go_enter Try.func20, Try.ntmps20
    go_wp2_with (with_reducible refine at_st ?_)
    refine CW.out.mono ?_
    rintro e W1 ⟨rfl, hb⟩
    obtain ⟨hT, hB⟩ := Blk.new (l := l) hl4 hb
    have HT := Lib.hid hT
    have HB := Lib.hid hB
    clear hb hT hB
    go_wp2_with (with_reducible refine at_st ?_)
    refine unhold ?_
    refine wpList_store_mid rfl 45 _ _ rfl W1.heap.size 0 (wcs l).toArray rfl rfl (by rw [hs17.out]; exact HT.out) (by rw [hs17.out]; exact info17) (all_oneCell_toArray (wcs_one l)) ?_
    rw [List.toList_toArray]
    generalize (W1.alloc (.cells zW 45)).setCells W1.heap.size 0 (wcs l) = W2 at HB ⊢
    clear HT
    generalize W1.heap.size = b at HB ⊢
    have HB4 := HB
    have HL : Hid (l.set k (loss1 (l.getD k wdD)) = wloss l k) := Lib.hid rfl
    have CA : Hid (Calls Try.prog 37 #[.pointer (some ⟨b, k * 4, none⟩)] W2 (Wrote W2 b (k * 4) (loss1 (l.getD k wdD)))) := Lib.hid (by
      have hp := (at_ok HAT.out).2
      have h2 := HB4.out.wn.rows k hk
      simp only [Int.toNat_natCast] at hp
      generalize l.getD k wdD = p at hp h2 ⊢
      obtain ⟨x, y, z, t⟩ := p
      exact lose_any b (k * 4) x y z t W2 h2 HB4.out.fz hp)
    go_wp2_with fail
    refine CA.out.mono ?_
    rintro e W5 ⟨rfl, hu⟩
    have HB5 := Lib.hid (HB4.out.upd hl4 hk hu)
    have CL := Lib.hid (list_any b _ W5 HB5.out.wn (by rw [List.length_set]; exact hl4))
    clear hu HB4
    go_wp2_with fail
    refine CL.out.mono ?_
    rintro e W6 ⟨v', rfl, h1, h2, h3⟩
    have E1 := Lib.hid (OwnW.lower h1 HB5.out.up.size)
    have E2 := Lib.hid h2
    have E3 := Lib.hid (HB5.out.up.trans (h3.mono HB5.out.up.size))
    obtain ⟨aa, cc, hv⟩ := h1.shape
    rw [List.length_set] at hv
    subst hv
    rw [HL.out] at E1
    clear h1 h2 h3
    go_wp2_with fail
    go_ret2
    exact ⟨.slice aa l.length cc, rfl, E1.out, fun _ => E2.out, E3.out⟩
  · have CW := Lib.hid (with_no v l i w h hl hat)
    obtain ⟨a, c, rfl, _, _⟩ := h
    have HE : Hid (wlossv l i = []) := Lib.hid (if_neg hat)
    rw [HE.out, decide_eq_false hat]
    clear hat
    go_enter Try.func20, Try.ntmps20
    go_wp2_with (with_reducible refine at_st ?_)
    refine CW.out.mono ?_
    rintro e W1 ⟨rfl, hb⟩
    obtain ⟨hT, hB⟩ := below_put0 hb
    have HT := Lib.hid hT
    have HB := Lib.hid hB
    clear hb hT hB
    go_wp2_with (with_reducible refine at_st ?_)
    refine unhold ?_
    refine wpList_store_mid rfl 45 _ _ rfl W1.heap.size 0 zW rfl rfl HT.out info17 zW_one ?_
    generalize (W1.alloc (.cells zW 45)).setCells W1.heap.size 0 zW.toList = W2 at HB ⊢
    go_wp2_with fail
    go_ret2
    exact ⟨.slice none 0 0, rfl, OwnW.nil _ _, (fun h => by cases h), HB.out⟩
end Go.Proofs.Ytfggldholaibeaa
