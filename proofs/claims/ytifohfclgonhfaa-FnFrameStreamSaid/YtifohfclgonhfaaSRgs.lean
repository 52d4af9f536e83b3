/- Chapter 4, the model's l4Data, l4Ranges. -/
import Derived.Test.YtifohfclgonhfaaSTake
import Derived.Test.YtifohfclgonhfaaRgOwn
import Derived.Deep.QuietTactic
import Derived.BigQuiet
import Derived.Maps.AppendAt
import Derived.WalkSmall
namespace Go.Proofs.Ytifohfclgonhfaa
open Go.RowKit
set_option linter.unusedVariables false
set_option linter.unusedSimpArgs false

def DatPost (w : World) (o : Option (ByteArray × Nat)) (e : Ending) (w' : World) : Prop :=
  e = .returned (.tuple #[.string (o.getD (⟨#[]⟩, 0)).1, .int .i64 ((o.getD (⟨#[]⟩, 0)).2 : Int)]) ∧ Below w.heap.size w w'
theorem DatPost.no {w w' : World} {o : Option (ByteArray × Nat)} (h : o = none) (hb : Below w.heap.size w w') : DatPost w o (.returned (.tuple #[.string ⟨#[]⟩, .int .i64 0])) w' := by subst h; exact ⟨rfl, hb⟩
theorem DatPost.yes {w w' : World} {o : Option (ByteArray × Nat)} {d : ByteArray} {u : Nat} {i : Int} (h : o = some (d, u)) (hi : i = (u : Int)) (hb : Below w.heap.size w w') : DatPost w o (.returned (.tuple #[.string d, .int .i64 i])) w' := by subst h hi; exact ⟨rfl, hb⟩

/-- The first of a list of ints that was handed back. -/
theorem first_int {w : World} {B : Nat} {a : Option Addr} {c : Nat} {xs : List Int} (h : w.ownsRow B 3 1 (.slice a xs.length c) xs.length (xs.map (Value.int .i64))) (hl : 0 < xs.length) : ∃ g, a = some ⟨g, 0, none⟩ ∧ B ≤ g ∧ g < w.heap.size ∧ xs.length ≤ c ∧ ∀ i, i < xs.length → w.cell? ⟨g, i, none⟩ = some (.int .i64 (xs.getD i 0)) := by
  have hc := Ints.of_own h
  obtain ⟨_, hv | ⟨g, c', cur, hv, hb, hg, hnc, hcm, _⟩⟩ := h
  · omega
  · injection hv with e1 e2 e3
    subst e1 e3
    obtain ⟨a', c2, hv', hc⟩ := hc
    injection hv' with f1 f2 f3
    subst f1
    obtain ⟨g', o', he, hc⟩ := hc (by rintro rfl; simp at hl)
    injection he with he
    injection he with he1 he2
    subst he1 he2
    refine ⟨g, rfl, hb, (Array.getElem?_eq_some_iff.1 hg).1, hnc, fun i hi => ?_⟩
    have := hc i hi
    rwa [Nat.zero_add] at this

set_option maxRecDepth 100000 in
set_option maxHeartbeats 1000000 in
theorem sdata_any (s : ByteArray) (w : World) (hs : s.size ≤ 4194304) : Calls Try.prog 72 #[.string s] w (DatPost w (dat4 s)) := by
  have HM : Hid (s.size ≤ maxLen) := Lib.hid (by unfold maxLen; omega)
  have hl1 := tk4_len 1 s
  have hsz := tk4_size 1 s
  obtain ⟨p, hp⟩ : ∃ p, tk4 1 s = p := ⟨_, rfl⟩
  have HT := Lib.hid (stake_any s 1 w HM.out (by omega))
  have hd : dat4 s = if p.1.length < 1 ∨ 12 < p.1.getD 0 0 ∨ (s.size : Int) < (p.2 : Int) + p.1.getD 0 0 then none else some (s.extract p.2 (p.2 + (p.1.getD 0 0).toNat), p.2 + (p.1.getD 0 0).toNat) := by unfold dat4; rw [hp]
  have hok := (tk4_ok 1 s).1
  rw [hp] at hl1 hsz HT hok
  have HD := Lib.hid hd
  clear hp hd
  obtain ⟨xs, u⟩ := p
  simp only at hl1 hsz hok HD
  by_cases h0 : xs.length < 1
  · have hx : xs = [] := List.length_eq_zero_iff.1 (by omega)
    subst hx
    go_enter Try.func72, Try.ntmps72
    go_wp2_with fail
    refine HT.out.mono ?_
    rintro e w1 ⟨a, c, rfl, hb1, ho1⟩
    have HB1 := Lib.hid hb1
    clear hb1 ho1
    go_wp2_with fail
    go_ret2
    exact DatPost.no (by rw [HD.out, if_pos (.inl h0)]) HB1.out
  · obtain ⟨n, rfl⟩ := List.length_eq_one_iff.1 (by omega : xs.length = 1)
    have hn := (okAll_cons n [] hok).1
    simp only [List.getD_cons_zero, List.length_singleton] at HD
    by_cases h1 : 12 < n
    · go_enter Try.func72, Try.ntmps72
      go_wp2_with fail
      refine HT.out.mono ?_
      rintro e w1 ⟨a, c, rfl, hb1, ho1⟩
      obtain ⟨g, rfl, hg1, hg2, hc1, hcell⟩ := first_int ho1 (by simp)
      have q0 := hcell 0 (by simp)
      simp only [List.getD_cons_zero] at q0
      have HB1 := Lib.hid hb1
      clear hb1 ho1 hcell
      go_wp2_with fail
      go_ret2
      exact DatPost.no (by rw [HD.out, if_pos (.inr (.inl h1))]) HB1.out
    · have hw : IntKind.i64.wrap ((u : Int) + n) = (u : Int) + n := IntWalk.i64_in _ (by omega)
      by_cases h2 : (s.size : Int) < (u : Int) + n
      · go_enter Try.func72, Try.ntmps72
        go_wp2_with fail
        refine HT.out.mono ?_
        rintro e w1 ⟨a, c, rfl, hb1, ho1⟩
        obtain ⟨g, rfl, hg1, hg2, hc1, hcell⟩ := first_int ho1 (by simp)
        have q0 := hcell 0 (by simp)
        simp only [List.getD_cons_zero] at q0
        have HB1 := Lib.hid hb1
        clear hb1 ho1 hcell
        go_wp2_with fail
        go_ret2
        exact DatPost.no (by rw [HD.out, if_pos (.inr (.inr h2))]) HB1.out
      · have i1 : (u : Int) ≤ (u : Int) + n := by omega
        have i2 : (u : Int) + n ≤ (s.size : Int) := by omega
        have i3 : (0 : Int) ≤ (u : Int) + n := by omega
        have i4 : ((u : Int) + n).toNat = u + n.toNat := by omega
        go_enter Try.func72, Try.ntmps72
        go_wp2_with fail
        refine HT.out.mono ?_
        rintro e w1 ⟨a, c, rfl, hb1, ho1⟩
        obtain ⟨g, rfl, hg1, hg2, hc1, hcell⟩ := first_int ho1 (by simp)
        have q0 := hcell 0 (by simp)
        simp only [List.getD_cons_zero] at q0
        have HB1 := Lib.hid hb1
        clear hb1 ho1 hcell
        go_wp2_with fail
        go_quiet (fail)
        go_wp2_with fail
        go_ret2
        exact DatPost.yes (by rw [HD.out, if_neg (by omega)]) (by omega) (below_drewN' HB1.out _)

def RgsPost (w : World) (o : Option (List (Int × Int) × Nat)) (e : Ending) (w' : World) : Prop :=
  ∃ (v : Value) (l : List (Int × Int)) (u : Nat), e = .returned (.tuple #[v, .int .i64 (u : Int)]) ∧ Below w.heap.size w w' ∧ OwnRg w' w.heap.size v l ∧ ((o = none ∧ u = 0) ∨ (o = some (l, u) ∧ 0 < u))
theorem unde_snoc : ∀ (n : Nat) (z : Int) (p : List Int) (x y : Int), p.length = 2 * n → unde z (p ++ [x, y]) = unde z p ++ [(lst z (unde z p) + 2 + x, lst z (unde z p) + 2 + x + y)] ∧ (unde z p).length = n
  | 0, z, p, x, y, h => by
    have : p = [] := List.length_eq_zero_iff.1 (by omega)
    subst this; exact ⟨rfl, rfl⟩
  | n + 1, z, [], x, y, h => by simp at h
  | n + 1, z, [q], x, y, h => by simp at h; omega
  | n + 1, z, a :: b :: p, x, y, h => by
    simp only [List.length_cons] at h
    obtain ⟨h1, h2⟩ := unde_snoc n (z + 2 + a + b) p x y (by omega)
    rw [List.cons_append, List.cons_append, unde, unde, lst, h1, List.cons_append, List.length_cons, h2]
    exact ⟨rfl, rfl⟩
theorem lst_snoc (z : Int) (l : List (Int × Int)) (r : Int × Int) : lst z (l ++ [r]) = r.2 := (deltas_snoc z l r).2
theorem take_two (q : List Int) (j : Nat) (h : 2 * j + 2 ≤ q.length) : q.take (2 * (j + 1)) = q.take (2 * j) ++ [q.getD (2 * j) 0, q.getD (2 * j + 1) 0] := by
  have e : 2 * (j + 1) = 2 * j + 1 + 1 := by omega
  rw [e, List.take_succ_eq_append_getElem (by omega), List.take_succ_eq_append_getElem (by omega), List.append_assoc]
  rw [List.getD_eq_getElem?_getD, List.getD_eq_getElem?_getD, List.getElem?_eq_getElem (by omega), List.getElem?_eq_getElem (by omega)]
  rfl
/-- What rgs4 makes of two takings. -/
theorem rgs4_by {s : ByteArray} {n : Int} {u : Nat} (h1 : tk4 1 s = ([n], u)) (h2 : ¬ 16 < n) : rgs4 s = if (tk4 (2 * n.toNat) (cut s u)).1.length < 2 * n.toNat then none else some (unde (-2) (tk4 (2 * n.toNat) (cut s u)).1, u + (tk4 (2 * n.toNat) (cut s u)).2) := by
  unfold rgs4
  rw [h1]
  simp only [List.getD_cons_zero, List.length_singleton]
  rw [if_neg (by omega)]

set_option maxRecDepth 100000 in
set_option maxHeartbeats 2000000 in
theorem srgs_any (s : ByteArray) (w : World) (hs : s.size ≤ 4194304) : Calls Try.prog 71 #[.string s] w (RgsPost w (rgs4 s)) := by
  have HM : Hid (s.size ≤ maxLen) := Lib.hid (by unfold maxLen; omega)
  obtain ⟨i0, hi, hz0, hz1, hz2⟩ := info_parts try_infoRange
  have HI := Lib.hid hi
  clear hi
  have hl1 := tk4_len 1 s
  have hsz := tk4_size 1 s
  obtain ⟨p, hp⟩ : ∃ p, tk4 1 s = p := ⟨_, rfl⟩
  have HT := Lib.hid (fun W => stake_any s 1 W HM.out (by omega))
  have hok := (tk4_ok 1 s).1
  rw [hp] at hl1 hsz hok
  have HP := Lib.hid hp
  rw [hp] at HT
  clear hp
  have ON := Lib.hid (own_new 85 2 w.heap.size w (Nat.le_refl _))
  have BN : Hid (Below w.heap.size w (w.alloc (.cells #[] 85))) := Lib.hid ((Below.refl _ _).alloc (Nat.le_refl _) _)
  obtain ⟨xs, u⟩ := p
  simp only at hl1 hsz hok
  by_cases h0 : xs.length < 1
  · have hx : xs = [] := List.length_eq_zero_iff.1 (by omega)
    subst hx
    go_enter Try.func71, Try.ntmps71
    go_wp2_with fail
    refine (HT.out _).mono ?_
    rintro e w1 ⟨a, c, rfl, hb1, ho1⟩
    have HO1 : Hid (OwnRg w1 w.heap.size (.slice (some ⟨w.heap.size, 0, none⟩) 0 0) []) := Lib.hid (own_below ON.out hb1)
    have HB1 := Lib.hid (BN.out.trans (hb1.mono BN.out.size))
    clear hb1 ho1
    go_wp2_with fail
    go_ret2
    exact ⟨_, [], 0, rfl, HB1.out, HO1.out, .inl ⟨by unfold rgs4; rw [HP.out, if_pos (.inl h0)], rfl⟩⟩
  · obtain ⟨n, rfl⟩ := List.length_eq_one_iff.1 (by omega : xs.length = 1)
    have hn := (okAll_cons n [] hok).1
    by_cases h1 : 16 < n
    · go_enter Try.func71, Try.ntmps71
      go_wp2_with fail
      refine (HT.out _).mono ?_
      rintro e w1 ⟨a, c, rfl, hb1, ho1⟩
      obtain ⟨g, rfl, hg1, hg2, hc1, hcell⟩ := first_int ho1 (by simp)
      have q0 := hcell 0 (by simp)
      simp only [List.getD_cons_zero] at q0
      have HO1 : Hid (OwnRg w1 w.heap.size (.slice (some ⟨w.heap.size, 0, none⟩) 0 0) []) := Lib.hid (own_below ON.out hb1)
      have HB1 := Lib.hid (BN.out.trans (hb1.mono BN.out.size))
      clear hb1 ho1 hcell
      go_wp2_with fail
      go_ret2
      exact ⟨_, [], 0, rfl, HB1.out, HO1.out, .inl ⟨by unfold rgs4; rw [HP.out, if_pos (.inr h1)], rfl⟩⟩
    · have HG := Lib.hid (rgs4_by HP.out h1)
      have hu1 : 1 ≤ u := by
        have e3 := (tk4_ok 1 s).2.2
        rw [HP.out] at e3
        simp only at e3
        have e : (joinS [n]).size = (encS n).size + (joinS []).size := by rw [joinS_cons, size_app]
        have z := encS_size n
        have := vlen_ok hn
        omega
      have HT2 := Lib.hid (fun W => stake_any (cut s u) (2 * n.toNat) W (by rw [cut_sz]; unfold maxLen; omega) (by omega))
      have hl2 := tk4_len (2 * n.toNat) (cut s u)
      have hs2 := tk4_size (2 * n.toNat) (cut s u)
      have hok2 := (tk4_ok (2 * n.toNat) (cut s u)).1
      rw [cut_sz] at hs2
      generalize tk4 (2 * n.toNat) (cut s u) = q at *
      obtain ⟨ys, m⟩ := q
      simp only at HG hl2 hs2 hok2
      have hw : IntKind.i64.wrap (2 * n) = 2 * n := IntWalk.i64_in _ (by omega)
      have hnn : n = (n.toNat : Int) := by omega
      have hu' : (u : Int) ≤ (s.size : Int) := by omega
      have h16 : n.toNat ≤ 16 := by omega
      generalize n.toNat = k at *
      subst hnn
      have e2k : ((2 * k : Nat) : Int) = 2 * (k : Int) := by omega
      rw [e2k] at HT2
      clear e2k
      go_enter Try.func71, Try.ntmps71
      go_wp2_with fail
      refine (HT.out _).mono ?_
      rintro e w1 ⟨a, c, rfl, hb1, ho1⟩
      obtain ⟨g, rfl, hg1, hg2, hc1, hcell⟩ := first_int ho1 (by simp)
      have q0 := hcell 0 (by simp)
      simp only [List.getD_cons_zero] at q0
      have HO1 : Hid (OwnRg w1 w.heap.size (.slice (some ⟨w.heap.size, 0, none⟩) 0 0) []) := Lib.hid (own_below ON.out hb1)
      have HB1 := Lib.hid (BN.out.trans (hb1.mono BN.out.size))
      clear hb1 ho1 hcell
      go_wp2_with fail
      go_region_held3 (fun w' => w'.cell? ⟨g, 0, none⟩ = some (.int .i64 (k : Int))) (first | assumption | exact q0 | exact kS2)
        (first
          | (go_at_call 70; refine (HT2.out _).mono ?_; rintro e w2 ⟨a2, c2, rfl, hb2, ho2⟩; have kS2 : w2.cell? ⟨g, 0, none⟩ = some (.int .i64 (k : Int)) := (hb2.cell hg2).trans q0))
      have hb2' : Below w1.heap.size w1 w2 := (Below.refl w1.heap.size w1).drew.trans hb2
      have HO2 : Hid (OwnRg w2 w.heap.size (.slice (some ⟨w.heap.size, 0, none⟩) 0 0) []) := Lib.hid (own_below HO1.out hb2')
      have HB2 := Lib.hid (HB1.out.trans (hb2'.mono HB1.out.size))
      have HL2 := Lib.hid ho2
      have hz12 := hb2'.size
      have hzz1 := HB1.out.size
      clear ho2 hb2 hb2'

      by_cases h3 : ys.length < 2 * k
      · have h3' : (ys.length : Int) < 2 * (k : Int) := by omega
        go_wp2_with fail
        go_ret2
        exact ⟨_, [], 0, rfl, HB2.out, HO2.out, .inl ⟨by rw [HG.out, if_pos h3], rfl⟩⟩
      · have h3' : ¬ (ys.length : Int) < 2 * (k : Int) := by omega
        have hyl : ys.length = 2 * k := by omega
        have HYL := Lib.hid hyl
        clear hyl
        have hyl6 : ys.length ≤ 32 := by omega
        have q0' : w2.cell? ⟨g, 0, none⟩ = some (.int .i64 (k : Int)) := kS2
        clear kS2 q0 ON BN HT2 HT HP
        go_wp2_with fail
        go_loopw [4, 9, 10] (fun lv zv iv wr => ∃ (j : Nat) (l : List (Int × Int)) (z : Int), j ≤ k ∧ iv = .int .i64 (j : Int) ∧ zv = .int .i64 z ∧ (-2 ≤ z ∧ z ≤ 2147483650 * (j : Int)) ∧ Hid (l = unde (-2) (ys.take (2 * j)) ∧ z = lst (-2) l) ∧ l.length ≤ j ∧ Hid (OwnRg wr w.heap.size lv l) ∧ Hid (Below w.heap.size w wr) ∧ Hid (w2.grownBy wr (some w.heap.size)) ∧ Hid (∀ b, lv.ownBlock = some b → b = w.heap.size ∨ w2.heap.size ≤ b)) (fun _ _ iv _ => k - (intOf iv).toNat)
        case atStart => exact ⟨0, [], -2, Nat.zero_le _, rfl, rfl, by omega, ⟨rfl, rfl⟩, Nat.le_refl _, HO2.out, HB2.out, World.grownBy.refl _ _, fun b hb => by injection hb with hb; exact .inl hb.symm⟩
        case round =>
          obtain ⟨j, l, z, hj, rfl, rfl, hz, HLZ, hlj, HO, HB, HGR, HOB⟩ := hrel
          obtain ⟨la, lc, rfl⟩ := ownsRow_shape HO.out
          have hgw : w.heap.size < g := by have e : (w.alloc (.cells #[] 85)).heap.size = w.heap.size + 1 := by simp
                                           omega
          have p0 : wr.cell? ⟨g, 0, none⟩ = some (.int .i64 (k : Int)) := (World.grownBy.cell_far HGR.out ⟨g, 0, none⟩ (by show g < _; omega) (by intro h; injection h with h; simp only at h; omega)).trans q0'
          by_cases hlt : j < k
          · have hlt' : (j : Int) < (k : Int) := by omega
            obtain ⟨g2, rfl, hg21, hg22, hc2, hcell⟩ := first_int HL2.out (by have := HYL.out; omega)
            have hx := hcell (2 * j) (by have := HYL.out; omega)
            have hy := hcell (2 * j + 1) (by have := HYL.out; omega)
            have tt := take_two ys j (by have := HYL.out; omega)
            have bx := all_at ys (2 * j) (by have := HYL.out; omega) hok2
            have b_y := all_at ys (2 * j + 1) (by have := HYL.out; omega) hok2
            have hg2' : w1.heap.size ≤ g2 := hg21
            have px : wr.cell? ⟨g2, 2 * j, none⟩ = some (.int .i64 (ys.getD (2 * j) 0)) := (World.grownBy.cell_far HGR.out ⟨g2, 2 * j, none⟩ (by show g2 < _; omega) (by intro h; injection h with h; simp only at h; omega)).trans hx
            have py : wr.cell? ⟨g2, 2 * j + 1, none⟩ = some (.int .i64 (ys.getD (2 * j + 1) 0)) := (World.grownBy.cell_far HGR.out ⟨g2, 2 * j + 1, none⟩ (by show g2 < _; omega) (by intro h; injection h with h; simp only at h; omega)).trans hy
            have us := unde_snoc j (-2) (ys.take (2 * j)) (ys.getD (2 * j) 0) (ys.getD (2 * j + 1) 0) (by rw [List.length_take]; have := HYL.out; omega)
            rw [← tt, ← HLZ.out.1, ← HLZ.out.2] at us
            generalize ys.getD (2 * j) 0 = x at *
            generalize ys.getD (2 * j + 1) 0 = y at *
            have US := Lib.hid us
            clear us tt hx hy hcell
            have d1 : 2 * (j : Int) < (ys.length : Int) := by have := HYL.out; omega
            have d2 : 2 * (j : Int) + 1 < (ys.length : Int) := by have := HYL.out; omega
            have d3 : (0 : Int) ≤ 2 * (j : Int) := by omega
            have d4 : (0 : Int) ≤ 2 * (j : Int) + 1 := by omega
            have d5 : (2 * (j : Int)).toNat = 2 * j := by omega
            have d6 : (2 * (j : Int) + 1).toNat = 2 * j + 1 := by omega
            have v1 : IntKind.i64.wrap (2 * (j : Int)) = 2 * (j : Int) := IntWalk.i64_in _ (by omega)
            have v2 : IntKind.i64.wrap (2 * (j : Int) + 1) = 2 * (j : Int) + 1 := IntWalk.i64_in _ (by omega)
            have v3 : IntKind.i64.wrap (z + 2) = z + 2 := IntWalk.i64_in _ (by omega)
            have v4 : IntKind.i64.wrap (z + 2 + x) = z + 2 + x := IntWalk.i64_in _ (by omega)
            have v5 : IntKind.i64.wrap (z + 2 + x + y) = z + 2 + x + y := IntWalk.i64_in _ (by omega)
            have v6 : IntKind.i64.wrap ((j : Int) + 1) = (j : Int) + 1 := IntWalk.i64_in _ (by omega)
            have hrz := HGR.out.size
            go_wp2_with (at_builtin; refine hold ?_)
            refine unhold ?_
            refine wpList_append_own_at (w := wr.alloc (.cells #[.int .i64 (z + 2 + x), .int .i64 (z + 2 + x + y)] 85)) rfl (.tmp 62) (.tmp 73) 23 rfl w.heap.size 85 i0 (.agg #[.int .i64 0, .int .i64 0]) 2 16 Try.underlying23 HI.out hz0 hz1 hz2 rfl (by decide) _ _ _ rfl (World.ownsRow.alloc HO.out _) ⟨wr.heap.size, 0, none⟩ 1 1 [.int .i64 (z + 2 + x), .int .i64 (z + 2 + x + y)] rfl rfl (cell_two_new _ _ _ _) (one2 _ _) ?c1 ?c2 ?c3 ?_
            case c1 => unfold maxLen; omega
            case c2 => omega
            case c3 => have := HB.out.size; simp; omega
            intro v3 w3 ho3 hg3 hiff3 hob3
            have HO3 := Lib.hid (own_snoc ho3)
            have HB3 : Hid (Below w.heap.size w w3) := Lib.hid (below_kept (HB.out.alloc HB.out.size _) (World.ownsRow.alloc HO.out _) (by have := HB.out.size; simp; omega) hg3)
            have HG3 : Hid (w2.grownBy w3 (some w.heap.size)) := Lib.hid (World.grownBy.andThen (World.grownBy.trans HGR.out (World.grownBy_alloc wr _ _)) hg3 fun b hb => by
              rcases HOB.out b hb with e | e
              · exact .inr (by rw [e])
              · exact .inl e)
            have HOB3 : Hid (∀ b, v3.ownBlock = some b → b = w.heap.size ∨ w2.heap.size ≤ b) := Lib.hid (fun b hb => by
              rcases hob3 with e | e
              · rw [e] at hb; exact HOB.out b hb
              · rw [e] at hb; injection hb with hb; right; rw [← hb]; simp; omega)
            have hg3s := hg3.size
            have p0' : w3.cell? ⟨g, 0, none⟩ = some (.int .i64 (k : Int)) := (World.grownBy.cell_far HG3.out ⟨g, 0, none⟩ (by show g < _; omega) (by intro h; injection h with h; simp only at h; omega)).trans q0'
            have px' : w3.cell? ⟨g2, 2 * j, none⟩ = some (.int .i64 x) := (World.grownBy.cell_far HG3.out ⟨g2, 2 * j, none⟩ (by show g2 < _; omega) (by intro h; injection h with h; simp only at h; omega)).trans ((World.grownBy.cell_far HGR.out ⟨g2, 2 * j, none⟩ (by show g2 < _; omega) (by intro h; injection h with h; simp only at h; omega)).symm.trans px)
            have py' : w3.cell? ⟨g2, 2 * j + 1, none⟩ = some (.int .i64 y) := (World.grownBy.cell_far HG3.out ⟨g2, 2 * j + 1, none⟩ (by show g2 < _; omega) (by intro h; injection h with h; simp only at h; omega)).trans ((World.grownBy.cell_far HGR.out ⟨g2, 2 * j + 1, none⟩ (by show g2 < _; omega) (by intro h; injection h with h; simp only at h; omega)).symm.trans py)
            have HLn : Hid (l ++ [(z + 2 + x, z + 2 + x + y)] = unde (-2) (ys.take (2 * (j + 1)))) := Lib.hid US.out.1.symm
            have HZn : Hid (z + 2 + x + y = lst (-2) (l ++ [(z + 2 + x, z + 2 + x + y)])) := Lib.hid (by rw [lst_snoc])
            have hl3 : (l ++ [(z + 2 + x, z + 2 + x + y)]).length ≤ j + 1 := by rw [List.length_append, List.length_singleton]; omega
            generalize l ++ [(z + 2 + x, z + 2 + x + y)] = l3 at *
            clear ho3 hg3 hiff3 hob3 px py p0
            go_wp2_with fail
            go_roundw
            case rel => exact ⟨j + 1, l3, z + 2 + x + y, by omega, by go_num, rfl, by omega, ⟨HLn.out, HZn.out⟩, hl3, HO3, HB3, HG3, HOB3⟩
            case measure => simp [intOf]; omega
          · have hlt' : ¬ (j : Int) < (k : Int) := by omega
            have hjk : 2 * j = ys.length := by have := HYL.out; omega
            have HE : Hid (rgs4 s = some (l, u + m)) := Lib.hid (by rw [HG.out, if_neg h3, HLZ.out.1, hjk, List.take_of_length_le (Nat.le_refl _)])
            have v9 : IntKind.i64.wrap ((u : Int) + (m : Int)) = (u : Int) + (m : Int) := IntWalk.i64_in _ (by omega)
            clear hjk
            go_wp2_with fail
            go_ret2
            exact ⟨_, l, u + m, by simp, HB.out, HO.out, .inr ⟨HE.out, by omega⟩⟩
end Go.Proofs.Ytifohfclgonhfaa
