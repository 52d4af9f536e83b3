/- Chapter 4, the model's l4Decode, FrameDecode. -/
import Derived.Test.YtifohfclgonhfaaSRgs
import Derived.Test.YtifohfclgonhfaaFrm
import Derived.Laws.ResultCell
namespace Go.Proofs.Ytifohfclgonhfaa
open Go.RowKit
set_option linter.unusedVariables false
set_option linter.unusedSimpArgs false

/-- A frame comes back whose ranges are the callee's own, and its length; or the zero frame and 0. -/
def DecPost (w : World) (o : Option (Fr × Nat)) (e : Ending) (w' : World) : Prop :=
  (o = none ∧ e = .returned (.tuple #[frV ⟨0, 0, 0, 0, ⟨#[]⟩, []⟩ (.slice none 0 0), .int .i64 0]) ∧ Below w.heap.size w w')
  ∨ ∃ (f : Fr) (n : Nat) (v : Value), o = some (f, n) ∧ e = .returned (.tuple #[frV f v, .int .i64 (n : Int)]) ∧ Below w.heap.size w w' ∧ OwnRg w' w.heap.size v f.rs

theorem dec4_by {s : ByteArray} {k : Int} {u : Nat} (h1 : tk4 1 s = ([k], u)) (h2 : ¬ 10 < k) : dec4 s = if (tk4 (fnum k) (cut s u)).1.length < fnum k then none else dbody k (tk4 (fnum k) (cut s u)).1 (cut s (u + (tk4 (fnum k) (cut s u)).2)) (u + (tk4 (fnum k) (cut s u)).2) := by
  unfold dec4
  rw [h1]
  simp only [List.getD_cons_zero, List.length_singleton]
  rw [if_neg (by omega)]

theorem dat4_le {s d : ByteArray} {u : Nat} (h : dat4 s = some (d, u)) : d.size ≤ 12 := by
  unfold dat4 at h
  split at h
  · cases h
  · rename_i h1
    injection h with h
    injection h with ha hb
    have : d.size = min ((tk4 1 s).2 + ((tk4 1 s).1.getD 0 0).toNat) s.size - (tk4 1 s).2 := by rw [← ha]; simp
    omega

theorem rgs4_le {s : ByteArray} {l : List (Int × Int)} {u : Nat} (h : rgs4 s = some (l, u)) : l.length ≤ 16 := by
  unfold rgs4 at h
  split at h
  · cases h
  · rename_i h1
    split at h
    · cases h
    · injection h with h
      injection h with ha hb
      have hl := tk4_len (2 * ((tk4 1 s).1.getD 0 0).toNat) (cut s (tk4 1 s).2)
      generalize tk4 (2 * ((tk4 1 s).1.getD 0 0).toNat) (cut s (tk4 1 s).2) = q at *
      obtain ⟨d1, d2⟩ := deltas_unde ((tk4 1 s).1.getD 0 0).toNat (-2) q.1 (by omega)
      rw [ha] at d2
      omega
theorem own_one {w : World} {B : Nat} {v : Value} {l : List (Int × Int)} (h : OwnRg w B v l) : v.oneCell' = true := by
  obtain ⟨a, c, rfl⟩ := ownsRow_shape h
  rfl

set_option maxRecDepth 100000 in
set_option maxHeartbeats 2000000 in
theorem sdec_x (s : ByteArray) (w : World) (hs : s.size ≤ 4194304) (k : Int) (u : Nat) (HP : Hid (tk4 1 s = ([k], u))) (hk0 : 0 ≤ k) (hk1 : k ≤ 10) (q : List Int) (m : Nat) (HQ : Hid (tk4 (fnum k) (cut s u) = (q, m))) (hl : q.length = fnum k) (HR : Hid (dec4 s = dbody k q (cut s (u + m)) (u + m))) (hk2 : k ≠ 2) (hk39 : ¬ (k = 3 ∨ k = 9)) : Calls Try.prog 48 #[.string s] w (DecPost w (dec4 s)) := by
  have HM : Hid (s.size ≤ maxLen) := Lib.hid (by unfold maxLen; omega)
  have hu := tk4_size 1 s
  rw [HP.out] at hu
  have hu' : (u : Int) ≤ (s.size : Int) := by simp only at hu; omega
  have HT1 := Lib.hid (fun W => stake_any s 1 W HM.out (by omega))
  rw [HP.out] at HT1
  have HT2 := Lib.hid (fun W => stake_any (cut s u) (fnum k) W (by rw [cut_sz]; unfold maxLen; omega) (by have := fnum_le k; omega))
  rw [HQ.out] at HT2
  have hn := fnum_le k
  obtain ⟨n, hne⟩ : ∃ n, fnum k = n := ⟨_, rfl⟩
  have HN := Lib.hid hne
  rw [hne] at hn hl HT2 HQ
  clear hne
  go_enter Try.func48, Try.ntmps48
  go_wp2_with fail
  refine (HT1.out _).mono ?_
  rintro e w1 ⟨a1, c1, rfl, hb1, ho1⟩
  obtain ⟨g, rfl, hg1, hg2, hc1, hcell⟩ := first_int ho1 (by simp)
  have q0 := hcell 0 (by simp)
  simp only [List.getD_cons_zero] at q0
  have HB1 := Lib.hid hb1
  clear hb1 ho1 hcell
  go_wp2_with fail
  have s1 : ((w1.alloc (.cells #[] 85)).alloc (.cells #[.int .i64 k, .int .i64 0, .int .i64 0, .int .i64 0, .string ⟨#[]⟩, .slice (some ⟨w1.heap.size, 0, none⟩) 0 0] 25)).heap.size = w1.heap.size + 1 + 1 := by simp
  have CF : Hid (∀ i, ((w1.alloc (.cells #[] 85)).alloc (.cells #[.int .i64 k, .int .i64 0, .int .i64 0, .int .i64 0, .string ⟨#[]⟩, .slice (some ⟨w1.heap.size, 0, none⟩) 0 0] 25)).cell? ⟨w1.heap.size + 1, i, none⟩ = [Value.int .i64 k, .int .i64 0, .int .i64 0, .int .i64 0, .string ⟨#[]⟩, .slice (some ⟨w1.heap.size, 0, none⟩) 0 0][i]?) := Lib.hid (fun i => by
    have := cell_lit (w1.alloc (.cells #[] 85)) 25 [.int .i64 k, .int .i64 0, .int .i64 0, .int .i64 0, .string ⟨#[]⟩, .slice (some ⟨w1.heap.size, 0, none⟩) 0 0] i
    rw [show (w1.alloc (.cells #[] 85)).heap.size = w1.heap.size + 1 by simp] at this
    exact this)
  have BW : Hid (Below w1.heap.size w1 ((w1.alloc (.cells #[] 85)).alloc (.cells #[.int .i64 k, .int .i64 0, .int .i64 0, .int .i64 0, .string ⟨#[]⟩, .slice (some ⟨w1.heap.size, 0, none⟩) 0 0] 25))) := Lib.hid (((Below.refl _ _).alloc (Nat.le_refl _) _).alloc (by simp) _)
  have FZ : Hid (∀ i, ((w1.alloc (.cells #[] 85)).alloc (.cells #[.int .i64 k, .int .i64 0, .int .i64 0, .int .i64 0, .string ⟨#[]⟩, .slice (some ⟨w1.heap.size, 0, none⟩) 0 0] 25)).frozen? ⟨w1.heap.size + 1, i, none⟩ = false) := Lib.hid (fun i => World.frozen?_alloc_at _ _ _ i (by simp))
  have OW : Hid (OwnRg ((w1.alloc (.cells #[] 85)).alloc (.cells #[.int .i64 k, .int .i64 0, .int .i64 0, .int .i64 0, .string ⟨#[]⟩, .slice (some ⟨w1.heap.size, 0, none⟩) 0 0] 25)) w1.heap.size (.slice (some ⟨w1.heap.size, 0, none⟩) 0 0) []) := Lib.hid (World.ownsRow.alloc (own_new 85 2 w1.heap.size w1 (Nat.le_refl _)) _)
  generalize (w1.alloc (.cells #[] 85)).alloc (.cells #[.int .i64 k, .int .i64 0, .int .i64 0, .int .i64 0, .string ⟨#[]⟩, .slice (some ⟨w1.heap.size, 0, none⟩) 0 0] 25) = W at *
  have f0 := CF.out 0
  simp only [List.getElem?_cons_zero] at f0
  go_region_held3 (fun w' => w'.cell? ⟨w1.heap.size + 1, 0, none⟩ = some (.int .i64 k)) (first | assumption | exact f0 | exact kS2)
    (first
      | (go_at_call 49; refine (snum_any _ _).mono ?_; rw [HN.out]; rintro e wn ⟨rfl, rfl⟩)
      | (go_at_call 70; refine (HT2.out _).mono ?_; rintro e w2 ⟨a2, c2, rfl, hb2, ho2⟩; have hb2' : Below W.heap.size W w2 := (by first | exact (Below.refl W.heap.size W).drew.drew.trans hb2 | exact (Below.refl W.heap.size W).drew.trans hb2 | exact hb2); have kS2 : w2.cell? ⟨w1.heap.size + 1, 0, none⟩ = some (.int .i64 k) := (hb2'.cell (by show w1.heap.size + 1 < _; omega)).trans f0))
  obtain ⟨i0, hi, hz0, hz1, hz2⟩ := info_parts try_infoInt
  have HI := Lib.hid hi
  clear hi kS2 f0
  have HB2 := Lib.hid hb2'
  have HO2 : Hid (w2.ownsRow W.heap.size 3 1 (.slice a2 n c2) n (q.map (Value.int .i64))) := Lib.hid (by rw [← hl]; exact ho2)
  have hz2w := hb2'.size
  have c0 : w2.cell? ⟨w1.heap.size + 1, 0, none⟩ = some (.int .i64 k) := (hb2'.cell (by show w1.heap.size + 1 < _; omega)).trans (CF.out 0)
  clear hb2 hb2' ho2
  have hnn : ¬ (n : Int) < (n : Int) := by omega
  have vm : IntKind.i64.wrap ((u : Int) + (m : Int)) = (u : Int) + (m : Int) := IntWalk.i64_in _ (by have := tk4_size n (cut s u); rw [HQ.out, cut_sz] at this; simp only at this; omega)
  go_wp2_with fail
  refine (snum_any _ _).mono ?_
  rw [HN.out]
  rintro e wn ⟨rfl, rfl⟩
  have NW := Lib.hid (news_lit w2 3 [.int .i64 0, .int .i64 0, .int .i64 0] 3)
  go_wp2_with (at_builtin; refine wpList_append_own _ rfl _ _ 107 rfl W.heap.size 3 i0 (.int .i64 0) 1 8 Try.underlying107 HI.out hz0 hz1 hz2 rfl (by decide) _ _ _ rfl (World.ownsRow.alloc HO2.out _) ⟨w2.heap.size, 0, none⟩ 3 3 _ rfl ?d1 NW.out ?d2 ?d3 ?d4 ?d5 ?_)
  case d1 => simp
  case d2 => intro x hx; simp at hx; rw [hx]; rfl
  case d3 => unfold maxLen; omega
  case d4 => omega
  case d5 => simp; omega
  intro v3 w3 ho3 hg3 hiff3
  have HB3 : Hid (Below W.heap.size W w3) := Lib.hid (below_kept (HB2.out.alloc HB2.out.size _) (World.ownsRow.alloc HO2.out _) (by simp; omega) hg3)
  have HO3 := own_lens (xs := q) (ys := [0, 0, 0]) ho3 rfl rfl
  have hLl : 3 ≤ (q ++ [0, 0, 0]).length ∧ (q ++ [0, 0, 0]).length ≤ 6 := by rw [List.length_append, hl]; simp; omega
  have HDH : Hid (dhead k q = ⟨k, (q ++ [0, 0, 0]).getD 0 0, (q ++ [0, 0, 0]).getD 1 0, (q ++ [0, 0, 0]).getD 2 0, ⟨#[]⟩, []⟩) := Lib.hid rfl
  generalize q ++ [0, 0, 0] = L at *
  obtain ⟨hL3, hL6⟩ := hLl
  obtain ⟨a3, c3, rfl⟩ := ownsRow_shape HO3
  obtain ⟨g3, rfl, hg31, hg32, hc3, hcell3⟩ := first_int HO3 (by omega)
  have e0 := hcell3 0 (by omega)
  have e1 := hcell3 1 (by omega)
  have e2 := hcell3 2 (by omega)
  generalize L.getD 0 0 = x0 at *
  generalize L.getD 1 0 = x1 at *
  generalize L.getD 2 0 = x2 at *
  have hz3w := HB3.out.size
  have hfb : w1.heap.size + 1 < W.heap.size := by omega
  have hrb : w.heap.size < (w.alloc (.cells #[.int .i64 0, .int .i64 0, .int .i64 0, .int .i64 0, .string ⟨#[]⟩, .slice none 0 0] 25)).heap.size := by simp
  have hz1w := HB1.out.size
  have FC : Hid (Frm w3 (w1.heap.size + 1) [.int .i64 k, .int .i64 0, .int .i64 0, .int .i64 0, .string ⟨#[]⟩, .slice (some ⟨w1.heap.size, 0, none⟩) 0 0]) := Lib.hid (Frm.below CF.out HB3.out hfb)
  have FT : Hid (Thaw w3 (w1.heap.size + 1)) := Lib.hid (Thaw.below FZ.out HB3.out hfb)
  have RC : Hid (Frm w3 w.heap.size [.int .i64 0, .int .i64 0, .int .i64 0, .int .i64 0, .string ⟨#[]⟩, .slice none 0 0]) := Lib.hid (Frm.below (Frm.below (Frm.below (Frm.new w 25 _) HB1.out hrb) BW.out (by omega)) HB3.out (by omega))
  have RT : Hid (Thaw w3 w.heap.size) := Lib.hid (Thaw.below (Thaw.below (Thaw.below (Thaw.new w 25 [.int .i64 0, .int .i64 0, .int .i64 0, .int .i64 0, .string ⟨#[]⟩, .slice none 0 0]) HB1.out hrb) BW.out (by omega)) HB3.out (by omega))
  have hne3 : ¬ w.heap.size = w1.heap.size + 1 := by omega
  have hne4 : ¬ w1.heap.size + 1 = w.heap.size := by omega
  have HBW : Hid (Below w.heap.size w w3) := Lib.hid (((Below.refl w.heap.size w).alloc (Nat.le_refl _) _).trans ((HB1.out.trans ((BW.out.trans (HB3.out.mono (by omega))).mono hz1w)).mono (by omega)))
  have HOR : Hid (OwnRg w3 w.heap.size (.slice (some ⟨w1.heap.size, 0, none⟩) 0 0) []) := Lib.hid (OwnRg.lower (own_below OW.out HB3.out) (by omega))
  have hwz3 := HBW.out.size
  obtain ⟨k0, k1, k2, k3, k4, k5⟩ : w3.cell? ⟨w1.heap.size + 1, 0, none⟩ = some (.int .i64 k) ∧ w3.cell? ⟨w1.heap.size + 1, 1, none⟩ = some (.int .i64 0) ∧ w3.cell? ⟨w1.heap.size + 1, 2, none⟩ = some (.int .i64 0) ∧ w3.cell? ⟨w1.heap.size + 1, 3, none⟩ = some (.int .i64 0) ∧ w3.cell? ⟨w1.heap.size + 1, 4, none⟩ = some (.string ⟨#[]⟩) ∧ w3.cell? ⟨w1.heap.size + 1, 5, none⟩ = some (.slice (some ⟨w1.heap.size, 0, none⟩) 0 0) := ⟨FC.out 0, FC.out 1, FC.out 2, FC.out 3, FC.out 4, FC.out 5⟩
  have z1 := FT.out 1
  have z2 := FT.out 2
  have z3 := FT.out 3
  have hne1 : ¬ g3 = w1.heap.size + 1 := by omega
  have hne2 : ¬ w1.heap.size + 1 = g3 := by omega
  have i0' : (0 : Int) < (L.length : Int) := by omega
  have i1' : (1 : Int) < (L.length : Int) := by omega
  have i2' : (2 : Int) < (L.length : Int) := by omega
  clear ho3 hg3 hiff3 hcell3 c0
  have B4 : Hid (Below w.heap.size w (((w3.setCell ⟨w1.heap.size + 1, 1, none⟩ (.int .i64 x0)).setCell ⟨w1.heap.size + 1, 2, none⟩ (.int .i64 x1)).setCell ⟨w1.heap.size + 1, 3, none⟩ (.int .i64 x2))) := Lib.hid (((HBW.out.setCell (by show w.heap.size ≤ w1.heap.size + 1; omega) _).setCell (by show w.heap.size ≤ w1.heap.size + 1; omega) _).setCell (by show w.heap.size ≤ w1.heap.size + 1; omega) _)
  have FC4 : Hid (Frm (((w3.setCell ⟨w1.heap.size + 1, 1, none⟩ (.int .i64 x0)).setCell ⟨w1.heap.size + 1, 2, none⟩ (.int .i64 x1)).setCell ⟨w1.heap.size + 1, 3, none⟩ (.int .i64 x2)) (w1.heap.size + 1) [.int .i64 k, .int .i64 x0, .int .i64 x1, .int .i64 x2, .string ⟨#[]⟩, .slice (some ⟨w1.heap.size, 0, none⟩) 0 0]) := Lib.hid (((FC.out.set (i := 1) (by simp) (.int .i64 x0)).set (i := 2) (by simp) (.int .i64 x1)).set (i := 3) (by simp) (.int .i64 x2))
  have FT4 : Hid (Thaw (((w3.setCell ⟨w1.heap.size + 1, 1, none⟩ (.int .i64 x0)).setCell ⟨w1.heap.size + 1, 2, none⟩ (.int .i64 x1)).setCell ⟨w1.heap.size + 1, 3, none⟩ (.int .i64 x2)) (w1.heap.size + 1)) := Lib.hid (((FT.out.set _ _).set _ _).set _ _)
  have RC4 : Hid (Frm (((w3.setCell ⟨w1.heap.size + 1, 1, none⟩ (.int .i64 x0)).setCell ⟨w1.heap.size + 1, 2, none⟩ (.int .i64 x1)).setCell ⟨w1.heap.size + 1, 3, none⟩ (.int .i64 x2)) w.heap.size [.int .i64 0, .int .i64 0, .int .i64 0, .int .i64 0, .string ⟨#[]⟩, .slice none 0 0]) := Lib.hid (((RC.out.far hne4 _).far hne4 _).far hne4 _)
  have RT4 : Hid (Thaw (((w3.setCell ⟨w1.heap.size + 1, 1, none⟩ (.int .i64 x0)).setCell ⟨w1.heap.size + 1, 2, none⟩ (.int .i64 x1)).setCell ⟨w1.heap.size + 1, 3, none⟩ (.int .i64 x2)) w.heap.size) := Lib.hid (((RT.out.set _ _).set _ _).set _ _)
  have OR4 : Hid (OwnRg (((w3.setCell ⟨w1.heap.size + 1, 1, none⟩ (.int .i64 x0)).setCell ⟨w1.heap.size + 1, 2, none⟩ (.int .i64 x1)).setCell ⟨w1.heap.size + 1, 3, none⟩ (.int .i64 x2)) w.heap.size (.slice (some ⟨w1.heap.size, 0, none⟩) 0 0) []) := Lib.hid (own_far (own_far (own_far HOR.out (fun g h => by injection h with h; simp only at h; omega)) (fun g h => by injection h with h; simp only at h; omega)) (fun g h => by injection h with h; simp only at h; omega))
  have hs4 : (((w3.setCell ⟨w1.heap.size + 1, 1, none⟩ (.int .i64 x0)).setCell ⟨w1.heap.size + 1, 2, none⟩ (.int .i64 x1)).setCell ⟨w1.heap.size + 1, 3, none⟩ (.int .i64 x2)).heap.size = w3.heap.size := by simp
  have HNB0 : Hid (∀ g, (Value.slice (some ⟨w1.heap.size, 0, none⟩) 0 0).ownBlock = some g → w.heap.size ≠ g) := Lib.hid (fun g h => by injection h with h; simp only at h; omega)
  have i5 : ((u : Int) + (m : Int)).toNat = u + m := by omega
  have hum : u + m ≤ s.size := by have := tk4_size n (cut s u); rw [HQ.out, cut_sz] at this; simp only at this; omega
  have i6 : (u : Int) + (m : Int) ≤ (s.size : Int) := by omega
  have i7 : (0 : Int) ≤ (u : Int) + (m : Int) := by omega
  have hcz : (cut s (u + m)).size = s.size - (u + m) := cut_sz _ _
  have eb2 := bne_of hk2
  have eb3 : (k == 3) = false := bne_of (by omega)
  have eb9 : (k == 9) = false := bne_of (by omega)
  have hk3 : ¬ k = 3 := by omega
  have hk9 : ¬ k = 9 := by omega
  have HDBn : Hid (dec4 s = chk ⟨k, x0, x1, x2, ⟨#[]⟩, []⟩ (u + m)) := Lib.hid (by rw [HR.out]; unfold dbody; rw [if_neg hk2, if_neg hk39, HDH.out])
  have HLN : Hid ((⟨k, x0, x1, x2, ⟨#[]⟩, []⟩ : Fr).rs.length ≤ 1048576) := Lib.hid (by simp)
  have HLD : Hid ((⟨k, x0, x1, x2, ⟨#[]⟩, []⟩ : Fr).d.size ≤ 2097152) := Lib.hid (by show 0 ≤ 2097152; omega)
  have HNB := HNB0
  go_wp2_with fail
  generalize (((w3.setCell ⟨w1.heap.size + 1, 1, none⟩ (.int .i64 x0)).setCell ⟨w1.heap.size + 1, 2, none⟩ (.int .i64 x1)).setCell ⟨w1.heap.size + 1, 3, none⟩ (.int .i64 x2)) = W4 at *
  have HVAL := Lib.hid (fun W' (h : Rngs W' (.slice (some ⟨w1.heap.size, 0, none⟩) 0 0) []) => sfok_any (⟨k, x0, x1, x2, ⟨#[]⟩, []⟩ : Fr) (.slice (some ⟨w1.heap.size, 0, none⟩) 0 0) W' h HLN.out HLD.out)
  unfold frV at HVAL
  refine (HVAL.out _ (Rngs.of_own OR4.out)).mono ?_
  rintro e w6 ⟨rfl, hb5⟩
  have HB5 := Lib.hid (B4.out.trans (hb5.mono B4.out.size))
  have FC5 := Frm.below FC4.out hb5 (by omega)
  have RC5 := Frm.below RC4.out hb5 (by omega)
  have RT5 := Thaw.below RT4.out hb5 (by omega)
  have OR5 : Hid (OwnRg w6 w.heap.size (.slice (some ⟨w1.heap.size, 0, none⟩) 0 0) []) := Lib.hid (own_below OR4.out hb5)
  obtain ⟨a0, a1, a2, a3, a4, a5⟩ : w6.cell? ⟨w1.heap.size + 1, 0, none⟩ = some (.int .i64 k) ∧ w6.cell? ⟨w1.heap.size + 1, 1, none⟩ = some (.int .i64 x0) ∧ w6.cell? ⟨w1.heap.size + 1, 2, none⟩ = some (.int .i64 x1) ∧ w6.cell? ⟨w1.heap.size + 1, 3, none⟩ = some (.int .i64 x2) ∧ w6.cell? ⟨w1.heap.size + 1, 4, none⟩ = some (.string ⟨#[]⟩) ∧ w6.cell? ⟨w1.heap.size + 1, 5, none⟩ = some (.slice (some ⟨w1.heap.size, 0, none⟩) 0 0) := ⟨FC5 0, FC5 1, FC5 2, FC5 3, FC5 4, FC5 5⟩
  obtain ⟨r0, r1, r2, r3, r4, r5⟩ : w6.cell? ⟨w.heap.size, 0, none⟩ = some (.int .i64 0) ∧ w6.cell? ⟨w.heap.size, 1, none⟩ = some (.int .i64 0) ∧ w6.cell? ⟨w.heap.size, 2, none⟩ = some (.int .i64 0) ∧ w6.cell? ⟨w.heap.size, 3, none⟩ = some (.int .i64 0) ∧ w6.cell? ⟨w.heap.size, 4, none⟩ = some (.string ⟨#[]⟩) ∧ w6.cell? ⟨w.heap.size, 5, none⟩ = some (.slice none 0 0) := ⟨RC5 0, RC5 1, RC5 2, RC5 3, RC5 4, RC5 5⟩
  obtain ⟨t0, t1, t2, t3, t4, t5⟩ : w6.frozen? ⟨w.heap.size, 0, none⟩ = false ∧ w6.frozen? ⟨w.heap.size, 1, none⟩ = false ∧ w6.frozen? ⟨w.heap.size, 2, none⟩ = false ∧ w6.frozen? ⟨w.heap.size, 3, none⟩ = false ∧ w6.frozen? ⟨w.heap.size, 4, none⟩ = false ∧ w6.frozen? ⟨w.heap.size, 5, none⟩ = false := ⟨RT5 0, RT5 1, RT5 2, RT5 3, RT5 4, RT5 5⟩
  have RC5 := Lib.hid RC5
  clear hb5 FC5 RT5
  have HCHK : Hid (chk (⟨k, x0, x1, x2, ⟨#[]⟩, []⟩ : Fr) (u + m) = if fok (⟨k, x0, x1, x2, ⟨#[]⟩, []⟩ : Fr) then some ((⟨k, x0, x1, x2, ⟨#[]⟩, []⟩ : Fr), u + m) else none) := Lib.hid rfl
  obtain ⟨ok, hok⟩ : ∃ ok, fok (⟨k, x0, x1, x2, ⟨#[]⟩, []⟩ : Fr) = ok := ⟨_, rfl⟩
  rw [hok] at HCHK ⊢
  clear hok
  cases ok
  · have RC6 : Hid (Frm ((((((w6.setCell ⟨w.heap.size, 0, none⟩ (.int .i64 0)).setCell ⟨w.heap.size, 1, none⟩ (.int .i64 0)).setCell ⟨w.heap.size, 2, none⟩ (.int .i64 0)).setCell ⟨w.heap.size, 3, none⟩ (.int .i64 0)).setCell ⟨w.heap.size, 4, none⟩ (.string ⟨#[]⟩)).setCell ⟨w.heap.size, 5, none⟩ (.slice none 0 0)) w.heap.size [.int .i64 0, .int .i64 0, .int .i64 0, .int .i64 0, .string ⟨#[]⟩, .slice none 0 0]) := Lib.hid ((((((RC5.out.set (i := 0) (by simp) (.int .i64 0)).set (i := 1) (by simp) (.int .i64 0)).set (i := 2) (by simp) (.int .i64 0)).set (i := 3) (by simp) (.int .i64 0)).set (i := 4) (by simp) (.string ⟨#[]⟩)).set (i := 5) (by simp) (.slice none 0 0))
    have B6 : Hid (Below w.heap.size w ((((((w6.setCell ⟨w.heap.size, 0, none⟩ (.int .i64 0)).setCell ⟨w.heap.size, 1, none⟩ (.int .i64 0)).setCell ⟨w.heap.size, 2, none⟩ (.int .i64 0)).setCell ⟨w.heap.size, 3, none⟩ (.int .i64 0)).setCell ⟨w.heap.size, 4, none⟩ (.string ⟨#[]⟩)).setCell ⟨w.heap.size, 5, none⟩ (.slice none 0 0))) := Lib.hid (((((((HB5.out.setCell (Nat.le_refl _) _).setCell (Nat.le_refl _) _).setCell (Nat.le_refl _) _).setCell (Nat.le_refl _) _).setCell (Nat.le_refl _) _).setCell (Nat.le_refl _) _))
    go_wp2_with fail
    generalize ((((((w6.setCell ⟨w.heap.size, 0, none⟩ (.int .i64 0)).setCell ⟨w.heap.size, 1, none⟩ (.int .i64 0)).setCell ⟨w.heap.size, 2, none⟩ (.int .i64 0)).setCell ⟨w.heap.size, 3, none⟩ (.int .i64 0)).setCell ⟨w.heap.size, 4, none⟩ (.string ⟨#[]⟩)).setCell ⟨w.heap.size, 5, none⟩ (.slice none 0 0)) = W6 at *
    obtain ⟨s0, s1', s2, s3, s4, s5⟩ : W6.cell? ⟨w.heap.size, 0, none⟩ = some (.int .i64 0) ∧ W6.cell? ⟨w.heap.size, 1, none⟩ = some (.int .i64 0) ∧ W6.cell? ⟨w.heap.size, 2, none⟩ = some (.int .i64 0) ∧ W6.cell? ⟨w.heap.size, 3, none⟩ = some (.int .i64 0) ∧ W6.cell? ⟨w.heap.size, 4, none⟩ = some (.string ⟨#[]⟩) ∧ W6.cell? ⟨w.heap.size, 5, none⟩ = some (.slice none 0 0) := ⟨RC6.out 0, RC6.out 1, RC6.out 2, RC6.out 3, RC6.out 4, RC6.out 5⟩
    refine bodyPost_ret (v := .tuple #[frV ⟨0, 0, 0, 0, ⟨#[]⟩, []⟩ (.slice none 0 0), .int .i64 0]) ?hr rfl ?_
    case hr => rw [results_cell_tmp rfl]; unfold frV; go_simp
    exact .inl ⟨by rw [HDBn.out, HCHK.out]; rfl, rfl, B6.out⟩
  · have RC6 : Hid (Frm ((((((w6.setCell ⟨w.heap.size, 0, none⟩ (.int .i64 k)).setCell ⟨w.heap.size, 1, none⟩ (.int .i64 x0)).setCell ⟨w.heap.size, 2, none⟩ (.int .i64 x1)).setCell ⟨w.heap.size, 3, none⟩ (.int .i64 x2)).setCell ⟨w.heap.size, 4, none⟩ (.string ⟨#[]⟩)).setCell ⟨w.heap.size, 5, none⟩ (.slice (some ⟨w1.heap.size, 0, none⟩) 0 0)) w.heap.size [.int .i64 k, .int .i64 x0, .int .i64 x1, .int .i64 x2, .string ⟨#[]⟩, .slice (some ⟨w1.heap.size, 0, none⟩) 0 0]) := Lib.hid ((((((RC5.out.set (i := 0) (by simp) (.int .i64 k)).set (i := 1) (by simp) (.int .i64 x0)).set (i := 2) (by simp) (.int .i64 x1)).set (i := 3) (by simp) (.int .i64 x2)).set (i := 4) (by simp) (.string ⟨#[]⟩)).set (i := 5) (by simp) (.slice (some ⟨w1.heap.size, 0, none⟩) 0 0))
    have B6 : Hid (Below w.heap.size w ((((((w6.setCell ⟨w.heap.size, 0, none⟩ (.int .i64 k)).setCell ⟨w.heap.size, 1, none⟩ (.int .i64 x0)).setCell ⟨w.heap.size, 2, none⟩ (.int .i64 x1)).setCell ⟨w.heap.size, 3, none⟩ (.int .i64 x2)).setCell ⟨w.heap.size, 4, none⟩ (.string ⟨#[]⟩)).setCell ⟨w.heap.size, 5, none⟩ (.slice (some ⟨w1.heap.size, 0, none⟩) 0 0))) := Lib.hid (((((((HB5.out.setCell (Nat.le_refl _) _).setCell (Nat.le_refl _) _).setCell (Nat.le_refl _) _).setCell (Nat.le_refl _) _).setCell (Nat.le_refl _) _).setCell (Nat.le_refl _) _))
    have OR6 : Hid (OwnRg ((((((w6.setCell ⟨w.heap.size, 0, none⟩ (.int .i64 k)).setCell ⟨w.heap.size, 1, none⟩ (.int .i64 x0)).setCell ⟨w.heap.size, 2, none⟩ (.int .i64 x1)).setCell ⟨w.heap.size, 3, none⟩ (.int .i64 x2)).setCell ⟨w.heap.size, 4, none⟩ (.string ⟨#[]⟩)).setCell ⟨w.heap.size, 5, none⟩ (.slice (some ⟨w1.heap.size, 0, none⟩) 0 0)) w.heap.size (.slice (some ⟨w1.heap.size, 0, none⟩) 0 0) []) := Lib.hid (own_far (own_far (own_far (own_far (own_far (own_far OR5.out HNB.out) HNB.out) HNB.out) HNB.out) HNB.out) HNB.out)
    go_wp2_with fail
    generalize ((((((w6.setCell ⟨w.heap.size, 0, none⟩ (.int .i64 k)).setCell ⟨w.heap.size, 1, none⟩ (.int .i64 x0)).setCell ⟨w.heap.size, 2, none⟩ (.int .i64 x1)).setCell ⟨w.heap.size, 3, none⟩ (.int .i64 x2)).setCell ⟨w.heap.size, 4, none⟩ (.string ⟨#[]⟩)).setCell ⟨w.heap.size, 5, none⟩ (.slice (some ⟨w1.heap.size, 0, none⟩) 0 0)) = W6 at *
    obtain ⟨s0, s1', s2, s3, s4, s5⟩ : W6.cell? ⟨w.heap.size, 0, none⟩ = some (.int .i64 k) ∧ W6.cell? ⟨w.heap.size, 1, none⟩ = some (.int .i64 x0) ∧ W6.cell? ⟨w.heap.size, 2, none⟩ = some (.int .i64 x1) ∧ W6.cell? ⟨w.heap.size, 3, none⟩ = some (.int .i64 x2) ∧ W6.cell? ⟨w.heap.size, 4, none⟩ = some (.string ⟨#[]⟩) ∧ W6.cell? ⟨w.heap.size, 5, none⟩ = some (.slice (some ⟨w1.heap.size, 0, none⟩) 0 0) := ⟨RC6.out 0, RC6.out 1, RC6.out 2, RC6.out 3, RC6.out 4, RC6.out 5⟩
    refine bodyPost_ret (v := .tuple #[frV (⟨k, x0, x1, x2, ⟨#[]⟩, []⟩ : Fr) (.slice (some ⟨w1.heap.size, 0, none⟩) 0 0), .int .i64 ((u : Int) + (m : Int))]) ?hr rfl ?_
    case hr => rw [results_cell_tmp rfl]; unfold frV; go_simp
    exact .inr ⟨(⟨k, x0, x1, x2, ⟨#[]⟩, []⟩ : Fr), u + m, (.slice (some ⟨w1.heap.size, 0, none⟩) 0 0), by rw [HDBn.out, HCHK.out]; rfl, by simp, B6.out, OR6.out⟩

set_option maxRecDepth 100000 in
set_option maxHeartbeats 2000000 in
theorem sdec_3 (s : ByteArray) (w : World) (hs : s.size ≤ 4194304) (k : Int) (u : Nat) (HP : Hid (tk4 1 s = ([k], u))) (hk0 : 0 ≤ k) (hk1 : k ≤ 10) (q : List Int) (m : Nat) (HQ : Hid (tk4 (fnum k) (cut s u) = (q, m))) (hl : q.length = fnum k) (HR : Hid (dec4 s = dbody k q (cut s (u + m)) (u + m))) (HK : Hid (k = 3)) : Calls Try.prog 48 #[.string s] w (DecPost w (dec4 s)) := by
  have HM : Hid (s.size ≤ maxLen) := Lib.hid (by unfold maxLen; omega)
  have hu := tk4_size 1 s
  rw [HP.out] at hu
  have hu' : (u : Int) ≤ (s.size : Int) := by simp only at hu; omega
  have HT1 := Lib.hid (fun W => stake_any s 1 W HM.out (by omega))
  rw [HP.out] at HT1
  have HT2 := Lib.hid (fun W => stake_any (cut s u) (fnum k) W (by rw [cut_sz]; unfold maxLen; omega) (by have := fnum_le k; omega))
  rw [HQ.out] at HT2
  have hn := fnum_le k
  obtain ⟨n, hne⟩ : ∃ n, fnum k = n := ⟨_, rfl⟩
  have HN := Lib.hid hne
  rw [hne] at hn hl HT2 HQ
  clear hne
  go_enter Try.func48, Try.ntmps48
  go_wp2_with fail
  refine (HT1.out _).mono ?_
  rintro e w1 ⟨a1, c1, rfl, hb1, ho1⟩
  obtain ⟨g, rfl, hg1, hg2, hc1, hcell⟩ := first_int ho1 (by simp)
  have q0 := hcell 0 (by simp)
  simp only [List.getD_cons_zero] at q0
  have HB1 := Lib.hid hb1
  clear hb1 ho1 hcell
  go_wp2_with fail
  have s1 : ((w1.alloc (.cells #[] 85)).alloc (.cells #[.int .i64 k, .int .i64 0, .int .i64 0, .int .i64 0, .string ⟨#[]⟩, .slice (some ⟨w1.heap.size, 0, none⟩) 0 0] 25)).heap.size = w1.heap.size + 1 + 1 := by simp
  have CF : Hid (∀ i, ((w1.alloc (.cells #[] 85)).alloc (.cells #[.int .i64 k, .int .i64 0, .int .i64 0, .int .i64 0, .string ⟨#[]⟩, .slice (some ⟨w1.heap.size, 0, none⟩) 0 0] 25)).cell? ⟨w1.heap.size + 1, i, none⟩ = [Value.int .i64 k, .int .i64 0, .int .i64 0, .int .i64 0, .string ⟨#[]⟩, .slice (some ⟨w1.heap.size, 0, none⟩) 0 0][i]?) := Lib.hid (fun i => by
    have := cell_lit (w1.alloc (.cells #[] 85)) 25 [.int .i64 k, .int .i64 0, .int .i64 0, .int .i64 0, .string ⟨#[]⟩, .slice (some ⟨w1.heap.size, 0, none⟩) 0 0] i
    rw [show (w1.alloc (.cells #[] 85)).heap.size = w1.heap.size + 1 by simp] at this
    exact this)
  have BW : Hid (Below w1.heap.size w1 ((w1.alloc (.cells #[] 85)).alloc (.cells #[.int .i64 k, .int .i64 0, .int .i64 0, .int .i64 0, .string ⟨#[]⟩, .slice (some ⟨w1.heap.size, 0, none⟩) 0 0] 25))) := Lib.hid (((Below.refl _ _).alloc (Nat.le_refl _) _).alloc (by simp) _)
  have FZ : Hid (∀ i, ((w1.alloc (.cells #[] 85)).alloc (.cells #[.int .i64 k, .int .i64 0, .int .i64 0, .int .i64 0, .string ⟨#[]⟩, .slice (some ⟨w1.heap.size, 0, none⟩) 0 0] 25)).frozen? ⟨w1.heap.size + 1, i, none⟩ = false) := Lib.hid (fun i => World.frozen?_alloc_at _ _ _ i (by simp))
  have OW : Hid (OwnRg ((w1.alloc (.cells #[] 85)).alloc (.cells #[.int .i64 k, .int .i64 0, .int .i64 0, .int .i64 0, .string ⟨#[]⟩, .slice (some ⟨w1.heap.size, 0, none⟩) 0 0] 25)) w1.heap.size (.slice (some ⟨w1.heap.size, 0, none⟩) 0 0) []) := Lib.hid (World.ownsRow.alloc (own_new 85 2 w1.heap.size w1 (Nat.le_refl _)) _)
  generalize (w1.alloc (.cells #[] 85)).alloc (.cells #[.int .i64 k, .int .i64 0, .int .i64 0, .int .i64 0, .string ⟨#[]⟩, .slice (some ⟨w1.heap.size, 0, none⟩) 0 0] 25) = W at *
  have f0 := CF.out 0
  simp only [List.getElem?_cons_zero] at f0
  go_region_held3 (fun w' => w'.cell? ⟨w1.heap.size + 1, 0, none⟩ = some (.int .i64 k)) (first | assumption | exact f0 | exact kS2)
    (first
      | (go_at_call 49; refine (snum_any _ _).mono ?_; rw [HN.out]; rintro e wn ⟨rfl, rfl⟩)
      | (go_at_call 70; refine (HT2.out _).mono ?_; rintro e w2 ⟨a2, c2, rfl, hb2, ho2⟩; have hb2' : Below W.heap.size W w2 := (by first | exact (Below.refl W.heap.size W).drew.drew.trans hb2 | exact (Below.refl W.heap.size W).drew.trans hb2 | exact hb2); have kS2 : w2.cell? ⟨w1.heap.size + 1, 0, none⟩ = some (.int .i64 k) := (hb2'.cell (by show w1.heap.size + 1 < _; omega)).trans f0))
  obtain ⟨i0, hi, hz0, hz1, hz2⟩ := info_parts try_infoInt
  have HI := Lib.hid hi
  clear hi kS2 f0
  have HB2 := Lib.hid hb2'
  have HO2 : Hid (w2.ownsRow W.heap.size 3 1 (.slice a2 n c2) n (q.map (Value.int .i64))) := Lib.hid (by rw [← hl]; exact ho2)
  have hz2w := hb2'.size
  have c0 : w2.cell? ⟨w1.heap.size + 1, 0, none⟩ = some (.int .i64 k) := (hb2'.cell (by show w1.heap.size + 1 < _; omega)).trans (CF.out 0)
  clear hb2 hb2' ho2
  have hnn : ¬ (n : Int) < (n : Int) := by omega
  have vm : IntKind.i64.wrap ((u : Int) + (m : Int)) = (u : Int) + (m : Int) := IntWalk.i64_in _ (by have := tk4_size n (cut s u); rw [HQ.out, cut_sz] at this; simp only at this; omega)
  go_wp2_with fail
  refine (snum_any _ _).mono ?_
  rw [HN.out]
  rintro e wn ⟨rfl, rfl⟩
  have NW := Lib.hid (news_lit w2 3 [.int .i64 0, .int .i64 0, .int .i64 0] 3)
  go_wp2_with (at_builtin; refine wpList_append_own _ rfl _ _ 107 rfl W.heap.size 3 i0 (.int .i64 0) 1 8 Try.underlying107 HI.out hz0 hz1 hz2 rfl (by decide) _ _ _ rfl (World.ownsRow.alloc HO2.out _) ⟨w2.heap.size, 0, none⟩ 3 3 _ rfl ?d1 NW.out ?d2 ?d3 ?d4 ?d5 ?_)
  case d1 => simp
  case d2 => intro x hx; simp at hx; rw [hx]; rfl
  case d3 => unfold maxLen; omega
  case d4 => omega
  case d5 => simp; omega
  intro v3 w3 ho3 hg3 hiff3
  have HB3 : Hid (Below W.heap.size W w3) := Lib.hid (below_kept (HB2.out.alloc HB2.out.size _) (World.ownsRow.alloc HO2.out _) (by simp; omega) hg3)
  have HO3 := own_lens (xs := q) (ys := [0, 0, 0]) ho3 rfl rfl
  have hLl : 3 ≤ (q ++ [0, 0, 0]).length ∧ (q ++ [0, 0, 0]).length ≤ 6 := by rw [List.length_append, hl]; simp; omega
  have HDH : Hid (dhead k q = ⟨k, (q ++ [0, 0, 0]).getD 0 0, (q ++ [0, 0, 0]).getD 1 0, (q ++ [0, 0, 0]).getD 2 0, ⟨#[]⟩, []⟩) := Lib.hid rfl
  generalize q ++ [0, 0, 0] = L at *
  obtain ⟨hL3, hL6⟩ := hLl
  obtain ⟨a3, c3, rfl⟩ := ownsRow_shape HO3
  obtain ⟨g3, rfl, hg31, hg32, hc3, hcell3⟩ := first_int HO3 (by omega)
  have e0 := hcell3 0 (by omega)
  have e1 := hcell3 1 (by omega)
  have e2 := hcell3 2 (by omega)
  generalize L.getD 0 0 = x0 at *
  generalize L.getD 1 0 = x1 at *
  generalize L.getD 2 0 = x2 at *
  have hz3w := HB3.out.size
  have hfb : w1.heap.size + 1 < W.heap.size := by omega
  have hrb : w.heap.size < (w.alloc (.cells #[.int .i64 0, .int .i64 0, .int .i64 0, .int .i64 0, .string ⟨#[]⟩, .slice none 0 0] 25)).heap.size := by simp
  have hz1w := HB1.out.size
  have FC : Hid (Frm w3 (w1.heap.size + 1) [.int .i64 k, .int .i64 0, .int .i64 0, .int .i64 0, .string ⟨#[]⟩, .slice (some ⟨w1.heap.size, 0, none⟩) 0 0]) := Lib.hid (Frm.below CF.out HB3.out hfb)
  have FT : Hid (Thaw w3 (w1.heap.size + 1)) := Lib.hid (Thaw.below FZ.out HB3.out hfb)
  have RC : Hid (Frm w3 w.heap.size [.int .i64 0, .int .i64 0, .int .i64 0, .int .i64 0, .string ⟨#[]⟩, .slice none 0 0]) := Lib.hid (Frm.below (Frm.below (Frm.below (Frm.new w 25 _) HB1.out hrb) BW.out (by omega)) HB3.out (by omega))
  have RT : Hid (Thaw w3 w.heap.size) := Lib.hid (Thaw.below (Thaw.below (Thaw.below (Thaw.new w 25 [.int .i64 0, .int .i64 0, .int .i64 0, .int .i64 0, .string ⟨#[]⟩, .slice none 0 0]) HB1.out hrb) BW.out (by omega)) HB3.out (by omega))
  have hne3 : ¬ w.heap.size = w1.heap.size + 1 := by omega
  have hne4 : ¬ w1.heap.size + 1 = w.heap.size := by omega
  have HBW : Hid (Below w.heap.size w w3) := Lib.hid (((Below.refl w.heap.size w).alloc (Nat.le_refl _) _).trans ((HB1.out.trans ((BW.out.trans (HB3.out.mono (by omega))).mono hz1w)).mono (by omega)))
  have HOR : Hid (OwnRg w3 w.heap.size (.slice (some ⟨w1.heap.size, 0, none⟩) 0 0) []) := Lib.hid (OwnRg.lower (own_below OW.out HB3.out) (by omega))
  have hwz3 := HBW.out.size
  obtain ⟨k0, k1, k2, k3, k4, k5⟩ : w3.cell? ⟨w1.heap.size + 1, 0, none⟩ = some (.int .i64 k) ∧ w3.cell? ⟨w1.heap.size + 1, 1, none⟩ = some (.int .i64 0) ∧ w3.cell? ⟨w1.heap.size + 1, 2, none⟩ = some (.int .i64 0) ∧ w3.cell? ⟨w1.heap.size + 1, 3, none⟩ = some (.int .i64 0) ∧ w3.cell? ⟨w1.heap.size + 1, 4, none⟩ = some (.string ⟨#[]⟩) ∧ w3.cell? ⟨w1.heap.size + 1, 5, none⟩ = some (.slice (some ⟨w1.heap.size, 0, none⟩) 0 0) := ⟨FC.out 0, FC.out 1, FC.out 2, FC.out 3, FC.out 4, FC.out 5⟩
  have z1 := FT.out 1
  have z2 := FT.out 2
  have z3 := FT.out 3
  have hne1 : ¬ g3 = w1.heap.size + 1 := by omega
  have hne2 : ¬ w1.heap.size + 1 = g3 := by omega
  have i0' : (0 : Int) < (L.length : Int) := by omega
  have i1' : (1 : Int) < (L.length : Int) := by omega
  have i2' : (2 : Int) < (L.length : Int) := by omega
  clear ho3 hg3 hiff3 hcell3 c0
  have B4 : Hid (Below w.heap.size w (((w3.setCell ⟨w1.heap.size + 1, 1, none⟩ (.int .i64 x0)).setCell ⟨w1.heap.size + 1, 2, none⟩ (.int .i64 x1)).setCell ⟨w1.heap.size + 1, 3, none⟩ (.int .i64 x2))) := Lib.hid (((HBW.out.setCell (by show w.heap.size ≤ w1.heap.size + 1; omega) _).setCell (by show w.heap.size ≤ w1.heap.size + 1; omega) _).setCell (by show w.heap.size ≤ w1.heap.size + 1; omega) _)
  have FC4 : Hid (Frm (((w3.setCell ⟨w1.heap.size + 1, 1, none⟩ (.int .i64 x0)).setCell ⟨w1.heap.size + 1, 2, none⟩ (.int .i64 x1)).setCell ⟨w1.heap.size + 1, 3, none⟩ (.int .i64 x2)) (w1.heap.size + 1) [.int .i64 k, .int .i64 x0, .int .i64 x1, .int .i64 x2, .string ⟨#[]⟩, .slice (some ⟨w1.heap.size, 0, none⟩) 0 0]) := Lib.hid (((FC.out.set (i := 1) (by simp) (.int .i64 x0)).set (i := 2) (by simp) (.int .i64 x1)).set (i := 3) (by simp) (.int .i64 x2))
  have FT4 : Hid (Thaw (((w3.setCell ⟨w1.heap.size + 1, 1, none⟩ (.int .i64 x0)).setCell ⟨w1.heap.size + 1, 2, none⟩ (.int .i64 x1)).setCell ⟨w1.heap.size + 1, 3, none⟩ (.int .i64 x2)) (w1.heap.size + 1)) := Lib.hid (((FT.out.set _ _).set _ _).set _ _)
  have RC4 : Hid (Frm (((w3.setCell ⟨w1.heap.size + 1, 1, none⟩ (.int .i64 x0)).setCell ⟨w1.heap.size + 1, 2, none⟩ (.int .i64 x1)).setCell ⟨w1.heap.size + 1, 3, none⟩ (.int .i64 x2)) w.heap.size [.int .i64 0, .int .i64 0, .int .i64 0, .int .i64 0, .string ⟨#[]⟩, .slice none 0 0]) := Lib.hid (((RC.out.far hne4 _).far hne4 _).far hne4 _)
  have RT4 : Hid (Thaw (((w3.setCell ⟨w1.heap.size + 1, 1, none⟩ (.int .i64 x0)).setCell ⟨w1.heap.size + 1, 2, none⟩ (.int .i64 x1)).setCell ⟨w1.heap.size + 1, 3, none⟩ (.int .i64 x2)) w.heap.size) := Lib.hid (((RT.out.set _ _).set _ _).set _ _)
  have OR4 : Hid (OwnRg (((w3.setCell ⟨w1.heap.size + 1, 1, none⟩ (.int .i64 x0)).setCell ⟨w1.heap.size + 1, 2, none⟩ (.int .i64 x1)).setCell ⟨w1.heap.size + 1, 3, none⟩ (.int .i64 x2)) w.heap.size (.slice (some ⟨w1.heap.size, 0, none⟩) 0 0) []) := Lib.hid (own_far (own_far (own_far HOR.out (fun g h => by injection h with h; simp only at h; omega)) (fun g h => by injection h with h; simp only at h; omega)) (fun g h => by injection h with h; simp only at h; omega))
  have hs4 : (((w3.setCell ⟨w1.heap.size + 1, 1, none⟩ (.int .i64 x0)).setCell ⟨w1.heap.size + 1, 2, none⟩ (.int .i64 x1)).setCell ⟨w1.heap.size + 1, 3, none⟩ (.int .i64 x2)).heap.size = w3.heap.size := by simp
  have HNB0 : Hid (∀ g, (Value.slice (some ⟨w1.heap.size, 0, none⟩) 0 0).ownBlock = some g → w.heap.size ≠ g) := Lib.hid (fun g h => by injection h with h; simp only at h; omega)
  have i5 : ((u : Int) + (m : Int)).toNat = u + m := by omega
  have hum : u + m ≤ s.size := by have := tk4_size n (cut s u); rw [HQ.out, cut_sz] at this; simp only at this; omega
  have i6 : (u : Int) + (m : Int) ≤ (s.size : Int) := by omega
  have i7 : (0 : Int) ≤ (u : Int) + (m : Int) := by omega
  have hcz : (cut s (u + m)).size = s.size - (u + m) := cut_sz _ _
  have hk2 : ¬ k = 2 := by have := HK.out; omega
  have eb2 := bne_of hk2
  have hk39 : k = 3 ∨ k = 9 := .inl HK.out
  have eb3 : (k == 3) = true := by rw [beq_iff_eq]; exact HK.out
  have HDA : Hid (dec4 s = (dat4 (cut s (u + m))).bind fun p => chk (withD ⟨k, x0, x1, x2, ⟨#[]⟩, []⟩ p.1) (u + m + p.2)) := Lib.hid (by rw [HR.out]; unfold dbody; rw [if_neg hk2, if_pos hk39, HDH.out])
  go_wp2_with fail
  generalize (((w3.setCell ⟨w1.heap.size + 1, 1, none⟩ (.int .i64 x0)).setCell ⟨w1.heap.size + 1, 2, none⟩ (.int .i64 x1)).setCell ⟨w1.heap.size + 1, 3, none⟩ (.int .i64 x2)) = W4 at *
  refine (sdata_any (cut s (u + m)) W4 (by omega)).mono ?_
  rintro e w5 ⟨rfl, hb5⟩
  have HB5 := Lib.hid (B4.out.trans (hb5.mono B4.out.size))
  have FC5 := Frm.below FC4.out hb5 (by omega)
  have FT5 := Thaw.below FT4.out hb5 (by omega)
  have RC5 := Frm.below RC4.out hb5 (by omega)
  have RT5 := Thaw.below RT4.out hb5 (by omega)
  have OR5 : Hid (OwnRg w5 w.heap.size (.slice (some ⟨w1.heap.size, 0, none⟩) 0 0) []) := Lib.hid (own_below OR4.out hb5)
  obtain ⟨a0, a1, a2, a3, a4, a5⟩ : w5.cell? ⟨w1.heap.size + 1, 0, none⟩ = some (.int .i64 k) ∧ w5.cell? ⟨w1.heap.size + 1, 1, none⟩ = some (.int .i64 x0) ∧ w5.cell? ⟨w1.heap.size + 1, 2, none⟩ = some (.int .i64 x1) ∧ w5.cell? ⟨w1.heap.size + 1, 3, none⟩ = some (.int .i64 x2) ∧ w5.cell? ⟨w1.heap.size + 1, 4, none⟩ = some (.string ⟨#[]⟩) ∧ w5.cell? ⟨w1.heap.size + 1, 5, none⟩ = some (.slice (some ⟨w1.heap.size, 0, none⟩) 0 0) := ⟨FC5 0, FC5 1, FC5 2, FC5 3, FC5 4, FC5 5⟩
  obtain ⟨r0, r1, r2, r3, r4, r5⟩ : w5.cell? ⟨w.heap.size, 0, none⟩ = some (.int .i64 0) ∧ w5.cell? ⟨w.heap.size, 1, none⟩ = some (.int .i64 0) ∧ w5.cell? ⟨w.heap.size, 2, none⟩ = some (.int .i64 0) ∧ w5.cell? ⟨w.heap.size, 3, none⟩ = some (.int .i64 0) ∧ w5.cell? ⟨w.heap.size, 4, none⟩ = some (.string ⟨#[]⟩) ∧ w5.cell? ⟨w.heap.size, 5, none⟩ = some (.slice none 0 0) := ⟨RC5 0, RC5 1, RC5 2, RC5 3, RC5 4, RC5 5⟩
  obtain ⟨t0, t1, t2, t3, t4, t5⟩ : w5.frozen? ⟨w.heap.size, 0, none⟩ = false ∧ w5.frozen? ⟨w.heap.size, 1, none⟩ = false ∧ w5.frozen? ⟨w.heap.size, 2, none⟩ = false ∧ w5.frozen? ⟨w.heap.size, 3, none⟩ = false ∧ w5.frozen? ⟨w.heap.size, 4, none⟩ = false ∧ w5.frozen? ⟨w.heap.size, 5, none⟩ = false := ⟨RT5 0, RT5 1, RT5 2, RT5 3, RT5 4, RT5 5⟩
  have tf4 := FT5 4
  have RC5 := Lib.hid RC5
  have RT5 := Lib.hid RT5
  have FC5 := Lib.hid FC5
  have h5z : w3.heap.size ≤ w5.heap.size := by have := hb5.size; omega
  clear hb5 FT5 hs4
  cases hdat : dat4 (cut s (u + m)) with
  | none =>
    rw [hdat] at HDA
    simp only [Option.getD_none]
    have RC6 : Hid (Frm ((((((w5.setCell ⟨w.heap.size, 0, none⟩ (.int .i64 0)).setCell ⟨w.heap.size, 1, none⟩ (.int .i64 0)).setCell ⟨w.heap.size, 2, none⟩ (.int .i64 0)).setCell ⟨w.heap.size, 3, none⟩ (.int .i64 0)).setCell ⟨w.heap.size, 4, none⟩ (.string ⟨#[]⟩)).setCell ⟨w.heap.size, 5, none⟩ (.slice none 0 0)) w.heap.size [.int .i64 0, .int .i64 0, .int .i64 0, .int .i64 0, .string ⟨#[]⟩, .slice none 0 0]) := Lib.hid ((((((RC5.out.set (i := 0) (by simp) (.int .i64 0)).set (i := 1) (by simp) (.int .i64 0)).set (i := 2) (by simp) (.int .i64 0)).set (i := 3) (by simp) (.int .i64 0)).set (i := 4) (by simp) (.string ⟨#[]⟩)).set (i := 5) (by simp) (.slice none 0 0))
    have B6 : Hid (Below w.heap.size w ((((((w5.setCell ⟨w.heap.size, 0, none⟩ (.int .i64 0)).setCell ⟨w.heap.size, 1, none⟩ (.int .i64 0)).setCell ⟨w.heap.size, 2, none⟩ (.int .i64 0)).setCell ⟨w.heap.size, 3, none⟩ (.int .i64 0)).setCell ⟨w.heap.size, 4, none⟩ (.string ⟨#[]⟩)).setCell ⟨w.heap.size, 5, none⟩ (.slice none 0 0))) := Lib.hid (((((((HB5.out.setCell (Nat.le_refl _) _).setCell (Nat.le_refl _) _).setCell (Nat.le_refl _) _).setCell (Nat.le_refl _) _).setCell (Nat.le_refl _) _).setCell (Nat.le_refl _) _))
    go_wp2_with fail
    generalize ((((((w5.setCell ⟨w.heap.size, 0, none⟩ (.int .i64 0)).setCell ⟨w.heap.size, 1, none⟩ (.int .i64 0)).setCell ⟨w.heap.size, 2, none⟩ (.int .i64 0)).setCell ⟨w.heap.size, 3, none⟩ (.int .i64 0)).setCell ⟨w.heap.size, 4, none⟩ (.string ⟨#[]⟩)).setCell ⟨w.heap.size, 5, none⟩ (.slice none 0 0)) = W6 at *
    obtain ⟨s0, s1', s2, s3, s4, s5⟩ : W6.cell? ⟨w.heap.size, 0, none⟩ = some (.int .i64 0) ∧ W6.cell? ⟨w.heap.size, 1, none⟩ = some (.int .i64 0) ∧ W6.cell? ⟨w.heap.size, 2, none⟩ = some (.int .i64 0) ∧ W6.cell? ⟨w.heap.size, 3, none⟩ = some (.int .i64 0) ∧ W6.cell? ⟨w.heap.size, 4, none⟩ = some (.string ⟨#[]⟩) ∧ W6.cell? ⟨w.heap.size, 5, none⟩ = some (.slice none 0 0) := ⟨RC6.out 0, RC6.out 1, RC6.out 2, RC6.out 3, RC6.out 4, RC6.out 5⟩
    refine bodyPost_ret (v := .tuple #[frV ⟨0, 0, 0, 0, ⟨#[]⟩, []⟩ (.slice none 0 0), .int .i64 0]) ?hr rfl ?_
    case hr => rw [results_cell_tmp rfl]; unfold frV; go_simp
    exact .inl ⟨by rw [HDA.out]; rfl, rfl, B6.out⟩
  | some p =>
    obtain ⟨dd, mm⟩ := p
    obtain ⟨hp1, hp2⟩ := dat4_some hdat
    have hmm : 1 ≤ mm := by
      have e := joinS_cons (dd.size : Int) []
      have z := encS_size (dd.size : Int)
      have z2 := size_app (encS (dd.size : Int)) (joinS [])
      have z3 := size_app (joinS [(dd.size : Int)]) dd
      rw [← e] at z2
      have : 1 ≤ vlen (dd.size : Int) := by
        have q12 : dd.size ≤ 12 := dat4_le hdat
        unfold vlen; omega
      omega
    have hmb : mm ≤ s.size - (u + m) := by
      have z4 := congrArg ByteArray.size hp1
      rw [size_app, ← hp2, cut_sz, cut_sz] at z4
      omega
    have q12 : dd.size ≤ 12 := dat4_le hdat
    rw [hdat] at HDA
    have HDBn : Hid (dec4 s = chk ⟨k, x0, x1, x2, dd, []⟩ (u + m + mm)) := Lib.hid (by rw [HDA.out]; rfl)
    have HLN : Hid ((⟨k, x0, x1, x2, dd, []⟩ : Fr).rs.length ≤ 1048576) := Lib.hid (by simp)
    have HLD : Hid ((⟨k, x0, x1, x2, dd, []⟩ : Fr).d.size ≤ 2097152) := Lib.hid (by show dd.size ≤ 2097152; omega)
    have HNB := HNB0
    clear hp1 hp2 hdat
    simp only [Option.getD_some]
    have hm0 : ¬ (mm : Int) = 0 := by omega
    have hm0n : ¬ mm = 0 := by omega
    have hm0b : ((mm : Int) == 0) = false := bne_of hm0
    have vw : IntKind.i64.wrap ((u : Int) + (m : Int) + (mm : Int)) = (u : Int) + (m : Int) + (mm : Int) := IntWalk.i64_in _ (by omega)
    have FC4 : Hid (Frm (w5.setCell ⟨w1.heap.size + 1, 4, none⟩ (.string dd)) (w1.heap.size + 1) [.int .i64 k, .int .i64 x0, .int .i64 x1, .int .i64 x2, .string dd, .slice (some ⟨w1.heap.size, 0, none⟩) 0 0]) := Lib.hid (FC5.out.set (i := 4) (by simp) _)
    have RC4 : Hid (Frm (w5.setCell ⟨w1.heap.size + 1, 4, none⟩ (.string dd)) w.heap.size [.int .i64 0, .int .i64 0, .int .i64 0, .int .i64 0, .string ⟨#[]⟩, .slice none 0 0]) := Lib.hid (RC5.out.far hne4 _)
    have RT4 : Hid (Thaw (w5.setCell ⟨w1.heap.size + 1, 4, none⟩ (.string dd)) w.heap.size) := Lib.hid (RT5.out.set _ _)
    have B4 : Hid (Below w.heap.size w (w5.setCell ⟨w1.heap.size + 1, 4, none⟩ (.string dd))) := Lib.hid (HB5.out.setCell (by show w.heap.size ≤ w1.heap.size + 1; omega) _)
    have OR4 : Hid (OwnRg (w5.setCell ⟨w1.heap.size + 1, 4, none⟩ (.string dd)) w.heap.size (.slice (some ⟨w1.heap.size, 0, none⟩) 0 0) []) := Lib.hid (own_far OR5.out (fun g h => by injection h with h; simp only at h; omega))
    have hs4 : (w5.setCell ⟨w1.heap.size + 1, 4, none⟩ (.string dd)).heap.size = w5.heap.size := by simp
    clear HDA HB5 OR5 RC5 RT5 FC5 r0 r1 r2 r3 r4 r5 t0 t1 t2 t3 t4 t5
    go_wp2_with fail
    generalize (w5.setCell ⟨w1.heap.size + 1, 4, none⟩ (.string dd)) = W5 at *
    have HVAL := Lib.hid (fun W' (h : Rngs W' (.slice (some ⟨w1.heap.size, 0, none⟩) 0 0) []) => sfok_any (⟨k, x0, x1, x2, dd, []⟩ : Fr) (.slice (some ⟨w1.heap.size, 0, none⟩) 0 0) W' h HLN.out HLD.out)
    unfold frV at HVAL
    refine (HVAL.out _ (Rngs.of_own OR4.out)).mono ?_
    rintro e w6 ⟨rfl, hb5⟩
    have HB5 := Lib.hid (B4.out.trans (hb5.mono B4.out.size))
    have FC5 := Frm.below FC4.out hb5 (by omega)
    have RC5 := Frm.below RC4.out hb5 (by omega)
    have RT5 := Thaw.below RT4.out hb5 (by omega)
    have OR5 : Hid (OwnRg w6 w.heap.size (.slice (some ⟨w1.heap.size, 0, none⟩) 0 0) []) := Lib.hid (own_below OR4.out hb5)
    obtain ⟨a0, a1, a2, a3, a4, a5⟩ : w6.cell? ⟨w1.heap.size + 1, 0, none⟩ = some (.int .i64 k) ∧ w6.cell? ⟨w1.heap.size + 1, 1, none⟩ = some (.int .i64 x0) ∧ w6.cell? ⟨w1.heap.size + 1, 2, none⟩ = some (.int .i64 x1) ∧ w6.cell? ⟨w1.heap.size + 1, 3, none⟩ = some (.int .i64 x2) ∧ w6.cell? ⟨w1.heap.size + 1, 4, none⟩ = some (.string dd) ∧ w6.cell? ⟨w1.heap.size + 1, 5, none⟩ = some (.slice (some ⟨w1.heap.size, 0, none⟩) 0 0) := ⟨FC5 0, FC5 1, FC5 2, FC5 3, FC5 4, FC5 5⟩
    obtain ⟨r0, r1, r2, r3, r4, r5⟩ : w6.cell? ⟨w.heap.size, 0, none⟩ = some (.int .i64 0) ∧ w6.cell? ⟨w.heap.size, 1, none⟩ = some (.int .i64 0) ∧ w6.cell? ⟨w.heap.size, 2, none⟩ = some (.int .i64 0) ∧ w6.cell? ⟨w.heap.size, 3, none⟩ = some (.int .i64 0) ∧ w6.cell? ⟨w.heap.size, 4, none⟩ = some (.string ⟨#[]⟩) ∧ w6.cell? ⟨w.heap.size, 5, none⟩ = some (.slice none 0 0) := ⟨RC5 0, RC5 1, RC5 2, RC5 3, RC5 4, RC5 5⟩
    obtain ⟨t0, t1, t2, t3, t4, t5⟩ : w6.frozen? ⟨w.heap.size, 0, none⟩ = false ∧ w6.frozen? ⟨w.heap.size, 1, none⟩ = false ∧ w6.frozen? ⟨w.heap.size, 2, none⟩ = false ∧ w6.frozen? ⟨w.heap.size, 3, none⟩ = false ∧ w6.frozen? ⟨w.heap.size, 4, none⟩ = false ∧ w6.frozen? ⟨w.heap.size, 5, none⟩ = false := ⟨RT5 0, RT5 1, RT5 2, RT5 3, RT5 4, RT5 5⟩
    have RC5 := Lib.hid RC5
    clear hb5 FC5 RT5
    have HCHK : Hid (chk (⟨k, x0, x1, x2, dd, []⟩ : Fr) (u + m + mm) = if fok (⟨k, x0, x1, x2, dd, []⟩ : Fr) then some ((⟨k, x0, x1, x2, dd, []⟩ : Fr), u + m + mm) else none) := Lib.hid rfl
    obtain ⟨ok, hok⟩ : ∃ ok, fok (⟨k, x0, x1, x2, dd, []⟩ : Fr) = ok := ⟨_, rfl⟩
    rw [hok] at HCHK ⊢
    clear hok
    cases ok
    · have RC6 : Hid (Frm ((((((w6.setCell ⟨w.heap.size, 0, none⟩ (.int .i64 0)).setCell ⟨w.heap.size, 1, none⟩ (.int .i64 0)).setCell ⟨w.heap.size, 2, none⟩ (.int .i64 0)).setCell ⟨w.heap.size, 3, none⟩ (.int .i64 0)).setCell ⟨w.heap.size, 4, none⟩ (.string ⟨#[]⟩)).setCell ⟨w.heap.size, 5, none⟩ (.slice none 0 0)) w.heap.size [.int .i64 0, .int .i64 0, .int .i64 0, .int .i64 0, .string ⟨#[]⟩, .slice none 0 0]) := Lib.hid ((((((RC5.out.set (i := 0) (by simp) (.int .i64 0)).set (i := 1) (by simp) (.int .i64 0)).set (i := 2) (by simp) (.int .i64 0)).set (i := 3) (by simp) (.int .i64 0)).set (i := 4) (by simp) (.string ⟨#[]⟩)).set (i := 5) (by simp) (.slice none 0 0))
      have B6 : Hid (Below w.heap.size w ((((((w6.setCell ⟨w.heap.size, 0, none⟩ (.int .i64 0)).setCell ⟨w.heap.size, 1, none⟩ (.int .i64 0)).setCell ⟨w.heap.size, 2, none⟩ (.int .i64 0)).setCell ⟨w.heap.size, 3, none⟩ (.int .i64 0)).setCell ⟨w.heap.size, 4, none⟩ (.string ⟨#[]⟩)).setCell ⟨w.heap.size, 5, none⟩ (.slice none 0 0))) := Lib.hid (((((((HB5.out.setCell (Nat.le_refl _) _).setCell (Nat.le_refl _) _).setCell (Nat.le_refl _) _).setCell (Nat.le_refl _) _).setCell (Nat.le_refl _) _).setCell (Nat.le_refl _) _))
      go_wp2_with fail
      generalize ((((((w6.setCell ⟨w.heap.size, 0, none⟩ (.int .i64 0)).setCell ⟨w.heap.size, 1, none⟩ (.int .i64 0)).setCell ⟨w.heap.size, 2, none⟩ (.int .i64 0)).setCell ⟨w.heap.size, 3, none⟩ (.int .i64 0)).setCell ⟨w.heap.size, 4, none⟩ (.string ⟨#[]⟩)).setCell ⟨w.heap.size, 5, none⟩ (.slice none 0 0)) = W6 at *
      obtain ⟨s0, s1', s2, s3, s4, s5⟩ : W6.cell? ⟨w.heap.size, 0, none⟩ = some (.int .i64 0) ∧ W6.cell? ⟨w.heap.size, 1, none⟩ = some (.int .i64 0) ∧ W6.cell? ⟨w.heap.size, 2, none⟩ = some (.int .i64 0) ∧ W6.cell? ⟨w.heap.size, 3, none⟩ = some (.int .i64 0) ∧ W6.cell? ⟨w.heap.size, 4, none⟩ = some (.string ⟨#[]⟩) ∧ W6.cell? ⟨w.heap.size, 5, none⟩ = some (.slice none 0 0) := ⟨RC6.out 0, RC6.out 1, RC6.out 2, RC6.out 3, RC6.out 4, RC6.out 5⟩
      refine bodyPost_ret (v := .tuple #[frV ⟨0, 0, 0, 0, ⟨#[]⟩, []⟩ (.slice none 0 0), .int .i64 0]) ?hr rfl ?_
      case hr => rw [results_cell_tmp rfl]; unfold frV; go_simp
      exact .inl ⟨by rw [HDBn.out, HCHK.out]; rfl, rfl, B6.out⟩
    · have RC6 : Hid (Frm ((((((w6.setCell ⟨w.heap.size, 0, none⟩ (.int .i64 k)).setCell ⟨w.heap.size, 1, none⟩ (.int .i64 x0)).setCell ⟨w.heap.size, 2, none⟩ (.int .i64 x1)).setCell ⟨w.heap.size, 3, none⟩ (.int .i64 x2)).setCell ⟨w.heap.size, 4, none⟩ (.string dd)).setCell ⟨w.heap.size, 5, none⟩ (.slice (some ⟨w1.heap.size, 0, none⟩) 0 0)) w.heap.size [.int .i64 k, .int .i64 x0, .int .i64 x1, .int .i64 x2, .string dd, .slice (some ⟨w1.heap.size, 0, none⟩) 0 0]) := Lib.hid ((((((RC5.out.set (i := 0) (by simp) (.int .i64 k)).set (i := 1) (by simp) (.int .i64 x0)).set (i := 2) (by simp) (.int .i64 x1)).set (i := 3) (by simp) (.int .i64 x2)).set (i := 4) (by simp) (.string dd)).set (i := 5) (by simp) (.slice (some ⟨w1.heap.size, 0, none⟩) 0 0))
      have B6 : Hid (Below w.heap.size w ((((((w6.setCell ⟨w.heap.size, 0, none⟩ (.int .i64 k)).setCell ⟨w.heap.size, 1, none⟩ (.int .i64 x0)).setCell ⟨w.heap.size, 2, none⟩ (.int .i64 x1)).setCell ⟨w.heap.size, 3, none⟩ (.int .i64 x2)).setCell ⟨w.heap.size, 4, none⟩ (.string dd)).setCell ⟨w.heap.size, 5, none⟩ (.slice (some ⟨w1.heap.size, 0, none⟩) 0 0))) := Lib.hid (((((((HB5.out.setCell (Nat.le_refl _) _).setCell (Nat.le_refl _) _).setCell (Nat.le_refl _) _).setCell (Nat.le_refl _) _).setCell (Nat.le_refl _) _).setCell (Nat.le_refl _) _))
      have OR6 : Hid (OwnRg ((((((w6.setCell ⟨w.heap.size, 0, none⟩ (.int .i64 k)).setCell ⟨w.heap.size, 1, none⟩ (.int .i64 x0)).setCell ⟨w.heap.size, 2, none⟩ (.int .i64 x1)).setCell ⟨w.heap.size, 3, none⟩ (.int .i64 x2)).setCell ⟨w.heap.size, 4, none⟩ (.string dd)).setCell ⟨w.heap.size, 5, none⟩ (.slice (some ⟨w1.heap.size, 0, none⟩) 0 0)) w.heap.size (.slice (some ⟨w1.heap.size, 0, none⟩) 0 0) []) := Lib.hid (own_far (own_far (own_far (own_far (own_far (own_far OR5.out HNB.out) HNB.out) HNB.out) HNB.out) HNB.out) HNB.out)
      go_wp2_with fail
      generalize ((((((w6.setCell ⟨w.heap.size, 0, none⟩ (.int .i64 k)).setCell ⟨w.heap.size, 1, none⟩ (.int .i64 x0)).setCell ⟨w.heap.size, 2, none⟩ (.int .i64 x1)).setCell ⟨w.heap.size, 3, none⟩ (.int .i64 x2)).setCell ⟨w.heap.size, 4, none⟩ (.string dd)).setCell ⟨w.heap.size, 5, none⟩ (.slice (some ⟨w1.heap.size, 0, none⟩) 0 0)) = W6 at *
      obtain ⟨s0, s1', s2, s3, s4, s5⟩ : W6.cell? ⟨w.heap.size, 0, none⟩ = some (.int .i64 k) ∧ W6.cell? ⟨w.heap.size, 1, none⟩ = some (.int .i64 x0) ∧ W6.cell? ⟨w.heap.size, 2, none⟩ = some (.int .i64 x1) ∧ W6.cell? ⟨w.heap.size, 3, none⟩ = some (.int .i64 x2) ∧ W6.cell? ⟨w.heap.size, 4, none⟩ = some (.string dd) ∧ W6.cell? ⟨w.heap.size, 5, none⟩ = some (.slice (some ⟨w1.heap.size, 0, none⟩) 0 0) := ⟨RC6.out 0, RC6.out 1, RC6.out 2, RC6.out 3, RC6.out 4, RC6.out 5⟩
      refine bodyPost_ret (v := .tuple #[frV (⟨k, x0, x1, x2, dd, []⟩ : Fr) (.slice (some ⟨w1.heap.size, 0, none⟩) 0 0), .int .i64 ((u : Int) + (m : Int) + (mm : Int))]) ?hr rfl ?_
      case hr => rw [results_cell_tmp rfl]; unfold frV; go_simp
      exact .inr ⟨(⟨k, x0, x1, x2, dd, []⟩ : Fr), u + m + mm, (.slice (some ⟨w1.heap.size, 0, none⟩) 0 0), by rw [HDBn.out, HCHK.out]; rfl, by simp, B6.out, OR6.out⟩

end Go.Proofs.Ytifohfclgonhfaa
