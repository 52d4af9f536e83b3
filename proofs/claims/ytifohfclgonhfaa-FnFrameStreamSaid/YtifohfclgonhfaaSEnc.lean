/- Chapter 4, the model's l4Encode and FrameEncode. -/
import Derived.Test.YtifohfclgonhfaaSVal
import Derived.Test.YtifohfclgonhfaaLit
namespace Go.Proofs.Ytifohfclgonhfaa
open Go.RowKit
set_option linter.unusedVariables false
set_option linter.unusedSimpArgs false

/-- The High of the last range, z if there is none. -/
def lst : Int → List (Int × Int) → Int
  | z, [] => z
  | _, r :: t => lst r.2 t
theorem deltas_snoc : ∀ (z : Int) (l : List (Int × Int)) (r : Int × Int), deltas z (l ++ [r]) = deltas z l ++ [r.1 - lst z l - 2, r.2 - r.1] ∧ lst z (l ++ [r]) = r.2
  | z, [], r => ⟨rfl, rfl⟩
  | z, q :: t, r => by
    obtain ⟨h1, h2⟩ := deltas_snoc q.2 t r
    rw [List.cons_append, deltas, deltas, lst, lst, h1, h2]
    exact ⟨rfl, rfl⟩
theorem vfrom_mem : ∀ (b : Int) (l : List (Int × Int)), 0 ≤ b → vfrom b l = true → ∀ r ∈ l, 0 ≤ r.1 ∧ r.1 ≤ r.2 ∧ r.2 ≤ 999
  | _, [], _, _, r, hr => by simp at hr
  | b, q :: t, hb, h, r, hr => by
    rw [vfrom_cons] at h
    rcases List.mem_cons.1 hr with rfl | hr
    · omega
    · exact vfrom_mem _ t (by omega) h.2 r hr
theorem lst_bnd : ∀ (z : Int) (l : List (Int × Int)), (∀ r ∈ l, 0 ≤ r.1 ∧ r.1 ≤ r.2 ∧ r.2 ≤ 999) → -2 ≤ z → z ≤ 999 → -2 ≤ lst z l ∧ lst z l ≤ 999
  | z, [], _, h1, h2 => ⟨h1, h2⟩
  | z, q :: t, h, _, _ => by
    have := h q (List.mem_cons_self ..)
    exact lst_bnd q.2 t (fun r hr => h r (List.mem_cons_of_mem _ hr)) (by omega) (by omega)
theorem take_snoc (l : List (Int × Int)) (j : Nat) (h : j < l.length) : l.take (j + 1) = l.take j ++ [((l.getD j (0, 0)).1, (l.getD j (0, 0)).2)] ∧ (l.getD j (0, 0)) ∈ l := by
  have e : l.getD j (0, 0) = l[j] := by rw [List.getD_eq_getElem?_getD, List.getElem?_eq_getElem h]; rfl
  rw [e]
  exact ⟨List.take_succ_eq_append_getElem h, List.getElem_mem h⟩
theorem own_lens {w : World} {B : Nat} {e : TypeId} {v : Value} {n : Nat} {xs ys : List Int} {X Y : List Value} (h : w.ownsRow B e 1 v n (X ++ Y)) (hx : X = xs.map (Value.int .i64)) (hy : Y = ys.map (Value.int .i64)) : w.ownsRow B e 1 v (xs ++ ys).length ((xs ++ ys).map (Value.int .i64)) := by
  subst hx hy
  have hl := h.1
  rw [List.map_append]
  have : n = (xs ++ ys).length := by
    rw [List.length_append, List.length_map, List.length_map] at hl
    rw [List.length_append]; omega
  rw [← this]; exact h
theorem fenc_x (f : Fr) (h2 : f.k ≠ 2) (h3 : f.k ≠ 3) (h9 : f.k ≠ 9) : fenc f = joinS (f.k :: fhd f) := by
  unfold fenc fints frest ftail
  rw [if_neg h2, if_neg (by omega), if_neg (by omega), List.append_nil]
  exact app_nil _
theorem fenc_2 (f : Fr) (h2 : f.k = 2) : fenc f = joinS ((f.k :: fhd f) ++ ([(f.rs.length : Int)] ++ deltas (-2) f.rs)) := by
  unfold fenc fints frest ftail
  rw [if_pos h2, if_neg (by omega)]
  exact app_nil _
theorem fenc_3 (f : Fr) (h3 : f.k = 3 ∨ f.k = 9) : fenc f = joinS ((f.k :: fhd f) ++ [(f.d.size : Int)]) ++ f.d := by
  unfold fenc fints frest ftail
  rw [if_neg (by omega), if_pos h3, if_pos h3]
  rfl

def EncPost (w : World) (s : ByteArray) (e : Ending) (w' : World) : Prop := e = .returned (.string s) ∧ Below w.heap.size w w'

set_option maxRecDepth 100000 in
set_option maxHeartbeats 1000000 in
theorem senc_x (k a b c : Int) (d : ByteArray) (rs : List (Int × Int)) (ra : Option Addr) (rc : Nat) (w : World) (HR : Hid (Rngs w (.slice ra rs.length rc) rs)) (HF : Hid (fok ⟨k, a, b, c, d, rs⟩ = true)) (h2 : k ≠ 2) (h3 : k ≠ 3) (h9 : k ≠ 9) :
    Calls Try.prog 44 #[frV ⟨k, a, b, c, d, rs⟩ (.slice ra rs.length rc)] w (EncPost w (fenc ⟨k, a, b, c, d, rs⟩)) := by
  obtain ⟨i0, hi, hz0, hz1, hz2⟩ := info_parts try_infoInt
  have HI := Lib.hid hi
  clear hi
  unfold frV
  have hn := fnum_le k
  obtain ⟨n, hne⟩ : ∃ n, fnum k = n := ⟨_, rfl⟩
  have HN := Lib.hid hne
  rw [hne] at hn
  obtain ⟨L, hL⟩ : ∃ L, k :: [a, b, c].take n = L := ⟨_, rfl⟩
  have hLl : L.length ≤ 4 := by rw [← hL]; simp; omega
  have HLF : Hid (k :: fhd ⟨k, a, b, c, d, rs⟩ = L) := Lib.hid (by unfold fhd; rw [hne]; exact hL)
  have HL := Lib.hid hL
  clear hne hL
  have e2 := bne_of h2
  have e3 := bne_of h3
  have e9 := bne_of h9
  have HE := Lib.hid (fenc_x ⟨k, a, b, c, d, rs⟩ h2 h3 h9)
  have HFI : Hid (fints ⟨k, a, b, c, d, rs⟩ = k :: fhd ⟨k, a, b, c, d, rs⟩) := Lib.hid (by unfold fints frest; rw [if_neg h2, if_neg (by simp only; omega), List.append_nil])
  go_enter Try.func44, Try.ntmps44
  go_wp2_with fail
  refine (snum_any _ _).mono ?_
  rw [HN.out]
  rintro e w' ⟨rfl, rfl⟩
  have HB0 : Hid (Below w.heap.size w (w.alloc (.cells #[.int .i64 k, .int .i64 a, .int .i64 b, .int .i64 c, .string d, .slice ra rs.length rc] 25))) := Lib.hid ((Below.refl _ _).alloc (Nat.le_refl _) _)
  have HR0 := Lib.hid (HR.out.below HB0.out)
  have s0 : (w.alloc (.cells #[.int .i64 k, .int .i64 a, .int .i64 b, .int .i64 c, .string d, .slice ra rs.length rc] 25)).heap.size = w.heap.size + 1 := by simp
  have C0 := Lib.hid (fun i => cell_lit w 25 [.int .i64 k, .int .i64 a, .int .i64 b, .int .i64 c, .string d, .slice ra rs.length rc] i)
  generalize w.alloc (.cells #[.int .i64 k, .int .i64 a, .int .i64 b, .int .i64 c, .string d, .slice ra rs.length rc] 25) = W at *
  have O0 := Lib.hid (World.ownsRow.alloc (own_lit W.heap.size 3 W [.int .i64 k] (Nat.le_refl _) (by simp)) (.cells #[.int .i64 a, .int .i64 b, .int .i64 c] 3))
  rw [s0] at O0
  have N0 := Lib.hid (news_lit (W.alloc (.cells #[.int .i64 k] 3)) 3 [.int .i64 a, .int .i64 b, .int .i64 c] n)
  have hs1 : (W.alloc (.cells #[.int .i64 k] 3)).heap.size = w.heap.size + 1 + 1 := by simp [s0]
  rw [hs1] at N0
  go_wp2_with (at_builtin; refine wpList_append_own _ rfl _ _ 107 rfl (w.heap.size + 1) 3 i0 (.int .i64 0) 1 8 Try.underlying107 HI.out hz0 hz1 hz2 rfl (by decide) _ _ _ rfl O0.out ⟨w.heap.size + 1 + 1, 0, none⟩ n 3 _ rfl ?c1 N0.out ?c2 ?c3 ?c4 ?c5 ?_)
  case c1 => simp; omega
  case c2 => intro u hu; have := List.mem_of_mem_take hu; simp at this; rcases this with rfl | rfl | rfl <;> rfl
  case c3 => simp only [List.length_singleton]; unfold maxLen; omega
  case c4 => simp only [List.length_singleton]; omega
  case c5 => simp [s0]
  intro v1 w1 ho hg hiff
  have hb1 : Below (w.heap.size + 1) W w1 := below_kept (((Below.refl (w.heap.size + 1) W).alloc (by omega) _).alloc (by simp [s0]) _) O0.out (by simp [s0]) hg
  have ho1 : w1.ownsRow (w.heap.size + 1) 3 1 v1 L.length (L.map (Value.int .i64)) := by
    have := own_lens (xs := [k]) (ys := [a, b, c].take n) ho rfl (by rw [List.map_take]; rfl)
    rw [show [k] ++ [a, b, c].take n = L from HL.out] at this
    exact this
  have hz1' := hb1.size
  rw [s0] at hz1'
  have k0 : w1.cell? ⟨w.heap.size, 0, none⟩ = some (.int .i64 k) := (hb1.cell (by simp [s0])).trans (C0.out 0)
  have k4 : w1.cell? ⟨w.heap.size, 4, none⟩ = some (.string d) := (hb1.cell (by simp [s0])).trans (C0.out 4)
  have k5 : w1.cell? ⟨w.heap.size, 5, none⟩ = some (.slice ra rs.length rc) := (hb1.cell (by simp [s0])).trans (C0.out 5)
  have HB1 := Lib.hid hb1
  have HO1 := Lib.hid ho1
  clear ho hg hiff hb1 ho1
  obtain ⟨la, lc, rfl⟩ := ownsRow_shape HO1.out
  have HOK := Lib.hid (fints_ok HF.out)
  have hok : okAll L = true := by have := HOK.out; rw [HFI.out, HLF.out] at this; exact this
  have HOKL := Lib.hid hok
  clear hok
  go_wp2_with fail
  refine (l1Join_any _ L _ (Ints.of_own HO1.out) (by omega) HOKL.out).mono ?_
  rintro e w2 ⟨rfl, hb2⟩
  have HB2 := Lib.hid (HB0.out.trans ((HB1.out.trans (hb2.mono hz1')).mono (by omega)))
  clear hb2
  go_wp2_with fail
  go_ret
  exact ⟨ret_str (by rw [HE.out]; show _ = joinS (k :: fhd _); rw [HLF.out]), HB2.out⟩


set_option maxRecDepth 100000 in
set_option maxHeartbeats 1000000 in
theorem senc_d (k a b c : Int) (d : ByteArray) (rs : List (Int × Int)) (ra : Option Addr) (rc : Nat) (w : World) (HR : Hid (Rngs w (.slice ra rs.length rc) rs)) (HF : Hid (fok ⟨k, a, b, c, d, rs⟩ = true)) (h2 : k ≠ 2) (h39 : k = 3 ∨ k = 9) (hd : d.size ≤ 12) :
    Calls Try.prog 44 #[frV ⟨k, a, b, c, d, rs⟩ (.slice ra rs.length rc)] w (EncPost w (fenc ⟨k, a, b, c, d, rs⟩)) := by
  obtain ⟨i0, hi, hz0, hz1, hz2⟩ := info_parts try_infoInt
  have HI := Lib.hid hi
  clear hi
  unfold frV
  have hn := fnum_le k
  obtain ⟨n, hne⟩ : ∃ n, fnum k = n := ⟨_, rfl⟩
  have HN := Lib.hid hne
  rw [hne] at hn
  obtain ⟨L, hL⟩ : ∃ L, k :: [a, b, c].take n = L := ⟨_, rfl⟩
  have hLl : L.length ≤ 4 := by rw [← hL]; simp; omega
  have HLF : Hid (k :: fhd ⟨k, a, b, c, d, rs⟩ = L) := Lib.hid (by unfold fhd; rw [hne]; exact hL)
  have HL := Lib.hid hL
  clear hne hL
  have e2 := bne_of h2
  have HE := Lib.hid (fenc_3 ⟨k, a, b, c, d, rs⟩ h39)
  have HFI : Hid (fints ⟨k, a, b, c, d, rs⟩ = (k :: fhd ⟨k, a, b, c, d, rs⟩) ++ [(d.size : Int)]) := Lib.hid (by unfold fints frest; rw [if_neg h2, if_pos h39]; rfl)
  go_enter Try.func44, Try.ntmps44
  go_wp2_with fail
  refine (snum_any _ _).mono ?_
  rw [HN.out]
  rintro e w' ⟨rfl, rfl⟩
  have HB0 : Hid (Below w.heap.size w (w.alloc (.cells #[.int .i64 k, .int .i64 a, .int .i64 b, .int .i64 c, .string d, .slice ra rs.length rc] 25))) := Lib.hid ((Below.refl _ _).alloc (Nat.le_refl _) _)
  have HR0 := Lib.hid (HR.out.below HB0.out)
  have s0 : (w.alloc (.cells #[.int .i64 k, .int .i64 a, .int .i64 b, .int .i64 c, .string d, .slice ra rs.length rc] 25)).heap.size = w.heap.size + 1 := by simp
  have C0 := Lib.hid (fun i => cell_lit w 25 [.int .i64 k, .int .i64 a, .int .i64 b, .int .i64 c, .string d, .slice ra rs.length rc] i)
  generalize w.alloc (.cells #[.int .i64 k, .int .i64 a, .int .i64 b, .int .i64 c, .string d, .slice ra rs.length rc] 25) = W at *
  have O0 := Lib.hid (World.ownsRow.alloc (own_lit W.heap.size 3 W [.int .i64 k] (Nat.le_refl _) (by simp)) (.cells #[.int .i64 a, .int .i64 b, .int .i64 c] 3))
  rw [s0] at O0
  have N0 := Lib.hid (news_lit (W.alloc (.cells #[.int .i64 k] 3)) 3 [.int .i64 a, .int .i64 b, .int .i64 c] n)
  have hs1 : (W.alloc (.cells #[.int .i64 k] 3)).heap.size = w.heap.size + 1 + 1 := by simp [s0]
  rw [hs1] at N0
  go_wp2_with (at_builtin; refine wpList_append_own _ rfl _ _ 107 rfl (w.heap.size + 1) 3 i0 (.int .i64 0) 1 8 Try.underlying107 HI.out hz0 hz1 hz2 rfl (by decide) _ _ _ rfl O0.out ⟨w.heap.size + 1 + 1, 0, none⟩ n 3 _ rfl ?c1 N0.out ?c2 ?c3 ?c4 ?c5 ?_)
  case c1 => simp; omega
  case c2 => intro u hu; have := List.mem_of_mem_take hu; simp at this; rcases this with rfl | rfl | rfl <;> rfl
  case c3 => simp only [List.length_singleton]; unfold maxLen; omega
  case c4 => simp only [List.length_singleton]; omega
  case c5 => simp [s0]
  intro v1 w1 ho hg hiff
  have hb1 : Below (w.heap.size + 1) W w1 := below_kept (((Below.refl (w.heap.size + 1) W).alloc (by omega) _).alloc (by simp [s0]) _) O0.out (by simp [s0]) hg
  have ho1 : w1.ownsRow (w.heap.size + 1) 3 1 v1 L.length (L.map (Value.int .i64)) := by
    have := own_lens (xs := [k]) (ys := [a, b, c].take n) ho rfl (by rw [List.map_take]; rfl)
    rw [show [k] ++ [a, b, c].take n = L from HL.out] at this
    exact this
  have hz1' := hb1.size
  rw [s0] at hz1'
  have k0 : w1.cell? ⟨w.heap.size, 0, none⟩ = some (.int .i64 k) := (hb1.cell (by simp [s0])).trans (C0.out 0)
  have k4 : w1.cell? ⟨w.heap.size, 4, none⟩ = some (.string d) := (hb1.cell (by simp [s0])).trans (C0.out 4)
  have k5 : w1.cell? ⟨w.heap.size, 5, none⟩ = some (.slice ra rs.length rc) := (hb1.cell (by simp [s0])).trans (C0.out 5)
  have HB1 := Lib.hid hb1
  have HO1 := Lib.hid ho1
  clear ho hg hiff hb1 ho1
  obtain ⟨la, lc, rfl⟩ := ownsRow_shape HO1.out
  have HOK := Lib.hid (fints_ok HF.out)
  have hok : okAll (L ++ [(d.size : Int)]) = true := by have := HOK.out; rw [HFI.out, HLF.out] at this; exact this
  have HOKL := Lib.hid hok
  clear hok
  have hl4 : (L ++ [(d.size : Int)]).length ≤ 5 := by rw [List.length_append, List.length_singleton]; omega
  have hjs := joinS_size (L ++ [(d.size : Int)])
  have hcat : ¬ 9223372036854775807 < (joinS (L ++ [(d.size : Int)])).size + d.size := by omega
  rcases h39 with h3 | h9
  · have e3 : (k == 3) = true := by rw [beq_iff_eq]; exact h3
    clear h3
    have kA : (w1.alloc (.cells #[.int .i64 (d.size : Int)] 3)).drew.cell? ⟨w.heap.size, 4, none⟩ = some (.string d) := (((Below.refl w1.heap.size w1).alloc (Nat.le_refl _) _).drew.cell (by show w.heap.size < _; omega)).trans k4
    have OA := Lib.hid (World.ownsRow.drew (World.ownsRow.alloc HO1.out (.cells #[.int .i64 (d.size : Int)] 3)))
    have BA : Hid (Below (w.heap.size + 1) W (w1.alloc (.cells #[.int .i64 (d.size : Int)] 3)).drew) := Lib.hid (HB1.out.alloc (by omega) _).drew
    have SA : Hid (w.heap.size + 1 ≤ (w1.alloc (.cells #[.int .i64 (d.size : Int)] 3)).drew.heap.size) := Lib.hid (by show _ ≤ (w1.alloc _).heap.size; simp; omega)
    have NA : Hid (∀ j u, ([(d.size : Int)].map (Value.int .i64))[j]? = some u → (w1.alloc (.cells #[.int .i64 (d.size : Int)] 3)).drew.cell? ((⟨w1.heap.size, 0, none⟩ : Addr).add j) = some u) := Lib.hid (fun j u h => news_lit w1 3 [.int .i64 (d.size : Int)] 1 j u h)
    go_wp2_with fail
    go_region_held3 (fun w' => w'.cell? ⟨w.heap.size, 4, none⟩ = some (.string d)) (first | assumption | exact kA | exact kS2 | exact kS3)
      (first
        | (refine step_append_ints _ (by rfl) _ _ (by rfl) (w.heap.size + 1) _ L [(d.size : Int)] (by rfl) OA.out ⟨w1.heap.size, 0, none⟩ 1 1 (by rfl) (by rfl) NA.out (by rw [List.length_singleton]; omega) SA.out ?_; intro aa2 nn2 cc2 w2 ho2 hg2; have hb2 : Below (w.heap.size + 1) W w2 := below_kept BA.out OA.out SA.out hg2; have kS2 : w2.cell? ⟨w.heap.size, 4, none⟩ = some (.string d) := (hb2.cell (by show w.heap.size < _; omega)).trans (C0.out 4))
        | (go_at_call 65; refine (l1Join_any _ (L ++ [(d.size : Int)]) _ (Ints.of_own ho2) (by omega) HOKL.out).mono ?_; rintro e w3 ⟨rfl, hb3⟩; have kS3 : w3.cell? ⟨w.heap.size, 4, none⟩ = some (.string d) := (hb3.cell (by have := hb2.size; rw [s0] at this; show w.heap.size < _; omega)).trans kS2))
    have HB3 := Lib.hid (HB0.out.trans ((hb2.trans (hb3.mono (by have := hb2.size; omega))).mono (by omega)))
    clear hb2 hb3 ho2 hg2
    go_wp2_with fail
    go_ret
    exact ⟨ret_str (by rw [HE.out]; show _ = joinS ((k :: fhd _) ++ [(d.size : Int)]) ++ d; rw [HLF.out]), HB3.out⟩
  · have e3 : (k == 3) = false := by rw [h9]; rfl
    have e9 : (k == 9) = true := by rw [beq_iff_eq]; exact h9
    clear h9
    have kA : (w1.alloc (.cells #[.int .i64 (d.size : Int)] 3)).drew.cell? ⟨w.heap.size, 4, none⟩ = some (.string d) := (((Below.refl w1.heap.size w1).alloc (Nat.le_refl _) _).drew.cell (by show w.heap.size < _; omega)).trans k4
    have OA := Lib.hid (World.ownsRow.drew (World.ownsRow.alloc HO1.out (.cells #[.int .i64 (d.size : Int)] 3)))
    have BA : Hid (Below (w.heap.size + 1) W (w1.alloc (.cells #[.int .i64 (d.size : Int)] 3)).drew) := Lib.hid (HB1.out.alloc (by omega) _).drew
    have SA : Hid (w.heap.size + 1 ≤ (w1.alloc (.cells #[.int .i64 (d.size : Int)] 3)).drew.heap.size) := Lib.hid (by show _ ≤ (w1.alloc _).heap.size; simp; omega)
    have NA : Hid (∀ j u, ([(d.size : Int)].map (Value.int .i64))[j]? = some u → (w1.alloc (.cells #[.int .i64 (d.size : Int)] 3)).drew.cell? ((⟨w1.heap.size, 0, none⟩ : Addr).add j) = some u) := Lib.hid (fun j u h => news_lit w1 3 [.int .i64 (d.size : Int)] 1 j u h)
    go_wp2_with fail
    go_region_held3 (fun w' => w'.cell? ⟨w.heap.size, 4, none⟩ = some (.string d)) (first | assumption | exact kA | exact kS2 | exact kS3)
      (first
        | (refine step_append_ints _ (by rfl) _ _ (by rfl) (w.heap.size + 1) _ L [(d.size : Int)] (by rfl) OA.out ⟨w1.heap.size, 0, none⟩ 1 1 (by rfl) (by rfl) NA.out (by rw [List.length_singleton]; omega) SA.out ?_; intro aa2 nn2 cc2 w2 ho2 hg2; have hb2 : Below (w.heap.size + 1) W w2 := below_kept BA.out OA.out SA.out hg2; have kS2 : w2.cell? ⟨w.heap.size, 4, none⟩ = some (.string d) := (hb2.cell (by show w.heap.size < _; omega)).trans (C0.out 4))
        | (go_at_call 65; refine (l1Join_any _ (L ++ [(d.size : Int)]) _ (Ints.of_own ho2) (by omega) HOKL.out).mono ?_; rintro e w3 ⟨rfl, hb3⟩; have kS3 : w3.cell? ⟨w.heap.size, 4, none⟩ = some (.string d) := (hb3.cell (by have := hb2.size; rw [s0] at this; show w.heap.size < _; omega)).trans kS2))
    have HB3 := Lib.hid (HB0.out.trans ((hb2.trans (hb3.mono (by have := hb2.size; omega))).mono (by omega)))
    clear hb2 hb3 ho2 hg2
    go_wp2_with fail
    go_ret
    exact ⟨ret_str (by rw [HE.out]; show _ = joinS ((k :: fhd _) ++ [(d.size : Int)]) ++ d; rw [HLF.out]), HB3.out⟩


set_option maxRecDepth 100000 in
set_option maxHeartbeats 1000000 in
theorem senc_2 (k a b c : Int) (d : ByteArray) (rs : List (Int × Int)) (ra : Option Addr) (rc : Nat) (w : World) (HR : Hid (Rngs w (.slice ra rs.length rc) rs)) (HF : Hid (fok ⟨k, a, b, c, d, rs⟩ = true)) (h2 : k = 2) (hr16 : rs.length ≤ 16) (hmem : ∀ r ∈ rs, 0 ≤ r.1 ∧ r.1 ≤ r.2 ∧ r.2 ≤ 999) :
    Calls Try.prog 44 #[frV ⟨k, a, b, c, d, rs⟩ (.slice ra rs.length rc)] w (EncPost w (fenc ⟨k, a, b, c, d, rs⟩)) := by
  obtain ⟨i0, hi, hz0, hz1, hz2⟩ := info_parts try_infoInt
  have HI := Lib.hid hi
  clear hi
  unfold frV
  have hn := fnum_le k
  obtain ⟨n, hne⟩ : ∃ n, fnum k = n := ⟨_, rfl⟩
  have HN := Lib.hid hne
  rw [hne] at hn
  obtain ⟨L, hL⟩ : ∃ L, k :: [a, b, c].take n = L := ⟨_, rfl⟩
  have hLl : L.length ≤ 4 := by rw [← hL]; simp; omega
  have HLF : Hid (k :: fhd ⟨k, a, b, c, d, rs⟩ = L) := Lib.hid (by unfold fhd; rw [hne]; exact hL)
  have HL := Lib.hid hL
  clear hne hL
  have e2 : (k == 2) = true := by rw [beq_iff_eq]; exact h2
  have e3 : (k == 3) = false := by rw [h2]; rfl
  have e9 : (k == 9) = false := by rw [h2]; rfl
  have HE := Lib.hid (fenc_2 ⟨k, a, b, c, d, rs⟩ h2)
  have HFI : Hid (fints ⟨k, a, b, c, d, rs⟩ = (k :: fhd ⟨k, a, b, c, d, rs⟩) ++ ([(rs.length : Int)] ++ deltas (-2) rs)) := Lib.hid (by unfold fints frest; rw [if_pos h2]; rfl)
  have HM := Lib.hid hmem
  clear hmem h2
  go_enter Try.func44, Try.ntmps44
  go_wp2_with fail
  refine (snum_any _ _).mono ?_
  rw [HN.out]
  rintro e w' ⟨rfl, rfl⟩
  have HB0 : Hid (Below w.heap.size w (w.alloc (.cells #[.int .i64 k, .int .i64 a, .int .i64 b, .int .i64 c, .string d, .slice ra rs.length rc] 25))) := Lib.hid ((Below.refl _ _).alloc (Nat.le_refl _) _)
  have HR0 := Lib.hid (HR.out.below HB0.out)
  have s0 : (w.alloc (.cells #[.int .i64 k, .int .i64 a, .int .i64 b, .int .i64 c, .string d, .slice ra rs.length rc] 25)).heap.size = w.heap.size + 1 := by simp
  have C0 := Lib.hid (fun i => cell_lit w 25 [.int .i64 k, .int .i64 a, .int .i64 b, .int .i64 c, .string d, .slice ra rs.length rc] i)
  generalize w.alloc (.cells #[.int .i64 k, .int .i64 a, .int .i64 b, .int .i64 c, .string d, .slice ra rs.length rc] 25) = W at *
  have O0 := Lib.hid (World.ownsRow.alloc (own_lit W.heap.size 3 W [.int .i64 k] (Nat.le_refl _) (by simp)) (.cells #[.int .i64 a, .int .i64 b, .int .i64 c] 3))
  rw [s0] at O0
  have N0 := Lib.hid (news_lit (W.alloc (.cells #[.int .i64 k] 3)) 3 [.int .i64 a, .int .i64 b, .int .i64 c] n)
  have hs1 : (W.alloc (.cells #[.int .i64 k] 3)).heap.size = w.heap.size + 1 + 1 := by simp [s0]
  rw [hs1] at N0
  go_wp2_with (at_builtin; refine wpList_append_own _ rfl _ _ 107 rfl (w.heap.size + 1) 3 i0 (.int .i64 0) 1 8 Try.underlying107 HI.out hz0 hz1 hz2 rfl (by decide) _ _ _ rfl O0.out ⟨w.heap.size + 1 + 1, 0, none⟩ n 3 _ rfl ?c1 N0.out ?c2 ?c3 ?c4 ?c5 ?_)
  case c1 => simp; omega
  case c2 => intro u hu; have := List.mem_of_mem_take hu; simp at this; rcases this with rfl | rfl | rfl <;> rfl
  case c3 => simp only [List.length_singleton]; unfold maxLen; omega
  case c4 => simp only [List.length_singleton]; omega
  case c5 => simp [s0]
  intro v1 w1 ho hg hiff
  have hb1 : Below (w.heap.size + 1) W w1 := below_kept (((Below.refl (w.heap.size + 1) W).alloc (by omega) _).alloc (by simp [s0]) _) O0.out (by simp [s0]) hg
  have ho1 : w1.ownsRow (w.heap.size + 1) 3 1 v1 L.length (L.map (Value.int .i64)) := by
    have := own_lens (xs := [k]) (ys := [a, b, c].take n) ho rfl (by rw [List.map_take]; rfl)
    rw [show [k] ++ [a, b, c].take n = L from HL.out] at this
    exact this
  have hz1' := hb1.size
  rw [s0] at hz1'
  have k0 : w1.cell? ⟨w.heap.size, 0, none⟩ = some (.int .i64 k) := (hb1.cell (by simp [s0])).trans (C0.out 0)
  have k4 : w1.cell? ⟨w.heap.size, 4, none⟩ = some (.string d) := (hb1.cell (by simp [s0])).trans (C0.out 4)
  have k5 : w1.cell? ⟨w.heap.size, 5, none⟩ = some (.slice ra rs.length rc) := (hb1.cell (by simp [s0])).trans (C0.out 5)
  have HB1 := Lib.hid hb1
  have HO1 := Lib.hid ho1
  clear ho hg hiff hb1 ho1
  obtain ⟨la, lc, rfl⟩ := ownsRow_shape HO1.out
  have HOK := Lib.hid (fints_ok HF.out)
  have hok : okAll (L ++ ([(rs.length : Int)] ++ deltas (-2) rs)) = true := by have := HOK.out; rw [HFI.out, HLF.out] at this; exact this
  have HOKL := Lib.hid hok
  clear hok
  have N1 := Lib.hid (news_lit w1 3 [.int .i64 (rs.length : Int)] 1)
  go_wp2_with (at_builtin; refine wpList_append_own _ rfl _ _ 107 rfl (w.heap.size + 1) 3 i0 (.int .i64 0) 1 8 Try.underlying107 HI.out hz0 hz1 hz2 rfl (by decide) _ _ _ rfl (World.ownsRow.alloc HO1.out _) ⟨w1.heap.size, 0, none⟩ 1 1 _ rfl ?d1 N1.out ?d2 ?d3 ?d4 ?d5 ?_)
  case d1 => simp
  case d2 => intro u hu; simp at hu; subst hu; rfl
  case d3 => unfold maxLen; omega
  case d4 => omega
  case d5 => simp; omega
  intro v2 w2 ho2 hg2 hiff2
  have hb2 : Below (w.heap.size + 1) W w2 := below_kept (HB1.out.alloc (by omega) _) (World.ownsRow.alloc HO1.out _) (by simp; omega) hg2
  have ho2' := own_lens (xs := L) (ys := [(rs.length : Int)]) ho2 rfl rfl
  have HB2 := Lib.hid hb2
  have HO2 := Lib.hid ho2'
  have hL2 : (L ++ [(rs.length : Int)]).length ≤ L.length + 1 := by rw [List.length_append, List.length_singleton]; omega
  obtain ⟨L2, hL2e⟩ : ∃ L2, L ++ [(rs.length : Int)] = L2 := ⟨_, rfl⟩
  rw [hL2e] at HO2 hL2
  have HL2 := Lib.hid hL2e
  clear ho2 hg2 hiff2 hb2 ho2' k0 k4 k5 hL2e
  obtain ⟨la2, lc2, rfl⟩ := ownsRow_shape HO2.out
  go_wp2_with fail
  go_loopw [3, 5, 6] (fun lv zv iv wr => ∃ (j : Nat) (M : List Int), j ≤ rs.length ∧ iv = .int .i64 j ∧ zv = .int .i64 (lst (-2) (rs.take j)) ∧ Hid (M = L2 ++ deltas (-2) (rs.take j)) ∧ M.length ≤ L.length + 1 + 2 * j ∧ Hid (wr.ownsRow (w.heap.size + 1) 3 1 lv M.length (M.map (Value.int .i64))) ∧ Hid (Below (w.heap.size + 1) W wr)) (fun _ _ iv _ => rs.length - (intOf iv).toNat)
  case atStart => exact ⟨0, L2, by omega, rfl, rfl, Lib.hid (by rw [List.take_zero]; exact (List.append_nil _).symm), by omega, HO2.out, HB2.out⟩
  case round =>
    obtain ⟨j, M, hj, rfl, rfl, HM1, hM, HO, HB⟩ := hrel
    have hwz := HB.out.size
    rw [s0] at hwz
    have k0 : wr.cell? ⟨w.heap.size, 0, none⟩ = some (.int .i64 k) := (HB.out.cell (by show w.heap.size < _; omega)).trans (C0.out 0)
    have k5 : wr.cell? ⟨w.heap.size, 5, none⟩ = some (.slice ra rs.length rc) := (HB.out.cell (by show w.heap.size < _; omega)).trans (C0.out 5)
    obtain ⟨la3, lc3, rfl⟩ := ownsRow_shape HO.out
    by_cases hlt : j < rs.length
    · have hlt' : (j : Int) < (rs.length : Int) := by omega
      obtain ⟨ra', rc', hra, hrc⟩ := HR0.out
      obtain ⟨g, o, rfl, hc⟩ := hrc (by rintro rfl; simp at hlt)
      injection hra with hra1 hra2 hra3
      subst hra1
      obtain ⟨q1, q2⟩ := hc j hlt
      have FW : Hid (∀ w', Below (w.heap.size + 1) W w' → w'.cell? ⟨w.heap.size, 5, none⟩ = some (.slice (some ⟨g, o, none⟩) rs.length rc) ∧ w'.cell? ⟨g, o + j * 2, none⟩ = some (.int .i64 (rs.getD j (0, 0)).1) ∧ w'.cell? ⟨g, o + j * 2 + 1, none⟩ = some (.int .i64 (rs.getD j (0, 0)).2)) := Lib.hid (fun w' hb => ⟨(hb.cell (by show w.heap.size < _; omega)).trans (C0.out 5), (hb.cell (by have := World.block_lt_of_cell? W _ q1; rw [s0] at this; exact this)).trans q1, (hb.cell (by have := World.block_lt_of_cell? W _ q2; rw [s0] at this; exact this)).trans q2⟩)
      have q1' : wr.cell? ⟨g, o + j * 2, none⟩ = some (.int .i64 (rs.getD j (0, 0)).1) := (HB.out.cell (by have := World.block_lt_of_cell? W _ q1; rw [s0] at this; exact this)).trans q1
      have q2' : wr.cell? ⟨g, o + j * 2 + 1, none⟩ = some (.int .i64 (rs.getD j (0, 0)).2) := (HB.out.cell (by have := World.block_lt_of_cell? W _ q2; rw [s0] at this; exact this)).trans q2
      clear q1 q2 hc hrc hra2 hra3
      obtain ⟨tk, tm⟩ := take_snoc rs j hlt
      have tb := HM.out _ tm
      have zb := lst_bnd (-2) (rs.take j) (fun r hr => HM.out r (List.mem_of_mem_take hr)) (by omega) (by omega)
      have ds := deltas_snoc (-2) (rs.take j) ((rs.getD j (0, 0)).1, (rs.getD j (0, 0)).2)
      rw [← tk] at ds
      generalize (rs.getD j (0, 0)).1 = x at *
      generalize (rs.getD j (0, 0)).2 = y at *
      generalize lst (-2) (rs.take j) = z at *
      have DS := Lib.hid ds
      clear ds tk tm
      have x1 : IntKind.i64.wrap (x - z) = x - z := IntWalk.i64_in _ (by omega)
      have x2 : IntKind.i64.wrap (x - z - 2) = x - z - 2 := IntWalk.i64_in _ (by omega)
      have x3 : IntKind.i64.wrap (y - x) = y - x := IntWalk.i64_in _ (by omega)
      have x4 : IntKind.i64.wrap ((j : Int) + 1) = (j : Int) + 1 := IntWalk.i64_in _ (by omega)
      have OA := Lib.hid (World.ownsRow.drew (World.ownsRow.alloc HO.out (.cells #[.int .i64 (x - z - 2), .int .i64 (y - x)] 3)))
      have BA : Hid (Below (w.heap.size + 1) W (wr.alloc (.cells #[.int .i64 (x - z - 2), .int .i64 (y - x)] 3)).drew) := Lib.hid (HB.out.alloc (by omega) _).drew
      have SA : Hid (w.heap.size + 1 ≤ (wr.alloc (.cells #[.int .i64 (x - z - 2), .int .i64 (y - x)] 3)).drew.heap.size) := Lib.hid (by show _ ≤ (wr.alloc _).heap.size; simp; omega)
      have NA : Hid (∀ j u, ([x - z - 2, y - x].map (Value.int .i64))[j]? = some u → (wr.alloc (.cells #[.int .i64 (x - z - 2), .int .i64 (y - x)] 3)).drew.cell? ((⟨wr.heap.size, 0, none⟩ : Addr).add j) = some u) := Lib.hid (fun j u h => news_lit wr 3 [.int .i64 (x - z - 2), .int .i64 (y - x)] 2 j u h)
      have kA := Lib.hid (FW.out _ BA.out)
      go_wp2_with fail
      go_region_held3 (fun w' => w'.cell? ⟨w.heap.size, 5, none⟩ = some (.slice (some ⟨g, o, none⟩) rs.length rc) ∧ w'.cell? ⟨g, o + j * 2, none⟩ = some (.int .i64 x) ∧ w'.cell? ⟨g, o + j * 2 + 1, none⟩ = some (.int .i64 y)) (first | assumption | exact ⟨k5, q1', q2'⟩ | exact kA.out | exact kS2)
        (first
          | (refine step_append_ints _ (by rfl) _ _ (by rfl) (w.heap.size + 1) _ M [x - z - 2, y - x] (by rfl) OA.out ⟨wr.heap.size, 0, none⟩ 2 2 (by rfl) (by rfl) NA.out (by simp only [List.length_cons, List.length_nil]; omega) SA.out ?_; intro aa2 nn2 cc2 w4 ho4 hg4; have hb4 : Below (w.heap.size + 1) W w4 := below_kept BA.out OA.out SA.out hg4; have kS2 := FW.out _ hb4))
      have HB4 := Lib.hid hb4
      have HO4 := Lib.hid ho4
      have HMn : Hid (M ++ [x - z - 2, y - x] = L2 ++ deltas (-2) (rs.take (j + 1))) := Lib.hid (by rw [DS.out.1, HM1.out, List.append_assoc])
      have HZn : Hid (y = lst (-2) (rs.take (j + 1))) := Lib.hid DS.out.2.symm
      have hMl : (M ++ [x - z - 2, y - x]).length ≤ L.length + 1 + 2 * (j + 1) := by rw [List.length_append]; show M.length + 2 ≤ _; omega
      generalize M ++ [x - z - 2, y - x] = M2 at *
      obtain ⟨z1, z2, z3⟩ := kS2
      clear ho4 hg4 hb4 kA OA BA SA NA FW
      go_wp2_with fail
      go_roundw
      case rel => exact ⟨j + 1, M2, by omega, by go_num, by rw [HZn.out], HMn, hMl, HO4, HB4⟩
      case measure => simp [intOf]; omega
    · have hlt' : ¬ (j : Int) < (rs.length : Int) := by omega
      have hj' : j = rs.length := by omega
      have HE2 : Hid (M = L ++ ([(rs.length : Int)] ++ deltas (-2) rs)) := Lib.hid (by rw [HM1.out, hj', List.take_of_length_le (Nat.le_refl _), ← HL2.out, List.append_assoc])
      have HOM : Hid (okAll M = true) := Lib.hid (by rw [HE2.out]; exact HOKL.out)
      clear hj'
      go_wp2_with fail
      refine (l1Join_any _ M _ (Ints.of_own HO.out) (by omega) HOM.out).mono ?_
      rintro e w5 ⟨rfl, hb5⟩
      have HB5 := Lib.hid (HB0.out.trans ((HB.out.trans (hb5.mono (by omega))).mono (by omega)))
      clear hb5
      go_wp2_with fail
      go_ret
      exact ⟨ret_str (by rw [HE.out, HE2.out]; show _ = joinS ((k :: fhd _) ++ _); rw [HLF.out]), HB5.out⟩


theorem senc_any (f : Fr) (v : Value) (w : World) (h : Rngs w v f.rs) (hf : fok f = true) : Calls Try.prog 44 #[frV f v] w (EncPost w (fenc f)) := by
  have HR := Lib.hid h
  obtain ⟨ra, rc, rfl, hr⟩ := h
  clear hr
  cases f with | mk k a b c d rs =>
  by_cases h2 : k = 2
  · have hv : rvalid rs = true := by rcases fok_cases hf with q | q | q | q | q | q | q | q <;> simp only at q <;> first | exact q.2.2.2 | (exfalso; omega)
    have hp := rvalid_parts hv
    exact senc_2 k a b c d rs ra rc w HR (Lib.hid hf) h2 hp.2 (vfrom_mem 0 rs (by omega) hp.1)
  · by_cases h3 : k = 3 ∨ k = 9
    · exact senc_d k a b c d rs ra rc w HR (Lib.hid hf) h2 h3 (fok_parts hf).2.2.2
    · exact senc_x k a b c d rs ra rc w HR (Lib.hid hf) h2 (fun h => h3 (.inl h)) (fun h => h3 (.inr h))

theorem fok_bnd {f : Fr} (h : fok f = true) : f.rs.length ≤ 16 ∧ f.d.size ≤ 12 := by
  refine ⟨?_, (fok_parts h).2.2.2⟩
  by_cases h2 : f.k = 2
  · have hv : rvalid f.rs = true := by rcases fok_cases h with q | q | q | q | q | q | q | q <;> first | exact q.2.2.2 | (exfalso; omega)
    exact (rvalid_parts hv).2
  · have := (fok_parts h).2.1.1 h2; omega

/-- A frame that was laid down, behind a callee. -/
theorem fr_cells {w w1 : World} {vs : List Value} (hb : Below (w.alloc (.cells vs.toArray 25)).heap.size (w.alloc (.cells vs.toArray 25)) w1) (i : Nat) : w1.cell? ⟨w.heap.size, i, none⟩ = vs[i]? :=
  (hb.cell (by show w.heap.size < (w.alloc _).heap.size; simp)).trans (cell_lit w 25 vs i)

set_option maxRecDepth 100000 in
set_option maxHeartbeats 1000000 in
theorem sfenc_any (f : Fr) (v : Value) (w : World) (h : Rngs w v f.rs) (hl : f.rs.length ≤ 1048576) (hd : f.d.size ≤ 2097152) : Calls Try.prog 17 #[frV f v] w (EncPost w (fencS f)) := by
  have HV := Lib.hid (fun W h => sfok_any f v W h hl hd)
  have HR := Lib.hid h
  have HX := Lib.hid (fun (W : World) (hr : Rngs W v f.rs) hf => senc_any f v W hr hf)
  clear h hl hd
  cases f with | mk k a b c d rs =>
  unfold frV at HV HX ⊢
  simp only at HV HX HR
  by_cases hf : fok ⟨k, a, b, c, d, rs⟩ = true
  · have HF := Lib.hid hf
    have HE : Hid (fencS ⟨k, a, b, c, d, rs⟩ = fenc ⟨k, a, b, c, d, rs⟩) := Lib.hid (by unfold fencS; rw [if_pos hf])
    clear hf
    go_enter Try.func17, Try.ntmps17
    go_wp2_with fail
    refine (HV.out _ (HR.out.below ((Below.refl _ _).alloc (Nat.le_refl _) _))).mono ?_
    rw [HF.out]
    rintro e w1 ⟨rfl, hb1⟩
    have C1 := fr_cells (vs := [.int .i64 k, .int .i64 a, .int .i64 b, .int .i64 c, .string d, v]) hb1
    have q0 := C1 0
    have q1 := C1 1
    have q2 := C1 2
    have q3 := C1 3
    have q4 := C1 4
    have q5 := C1 5
    simp only [List.getElem?_cons_zero, List.getElem?_cons_succ] at q0 q1 q2 q3 q4 q5
    have HB1 := Lib.hid (((Below.refl w.heap.size w).alloc (Nat.le_refl _) _).trans (hb1.mono (by simp)))
    have HR1 := Lib.hid (HR.out.below HB1.out)
    clear hb1 C1
    go_wp2_with fail
    refine (HX.out _ HR1.out HF.out).mono ?_
    rintro e w2 ⟨rfl, hb2⟩
    have HB2 := Lib.hid (HB1.out.trans (hb2.mono HB1.out.size))
    clear hb2
    go_wp2_with fail
    go_ret
    exact ⟨ret_str HE.out.symm, HB2.out⟩
  · have HF : Hid (fok ⟨k, a, b, c, d, rs⟩ = false) := Lib.hid (by cases hq : fok ⟨k, a, b, c, d, rs⟩; rfl; exact absurd hq hf)
    have HE : Hid (fencS ⟨k, a, b, c, d, rs⟩ = ⟨#[]⟩) := Lib.hid (by unfold fencS; rw [if_neg hf])
    clear hf
    go_enter Try.func17, Try.ntmps17
    go_wp2_with fail
    refine (HV.out _ (HR.out.below ((Below.refl _ _).alloc (Nat.le_refl _) _))).mono ?_
    rw [HF.out]
    rintro e w1 ⟨rfl, hb1⟩
    have HB1 := Lib.hid (((Below.refl w.heap.size w).alloc (Nat.le_refl _) _).trans (hb1.mono (by simp)))
    clear hb1
    go_wp2_with fail
    go_ret
    exact ⟨ret_str HE.out.symm, HB1.out⟩
end Go.Proofs.Ytifohfclgonhfaa
