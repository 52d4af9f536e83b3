/- The law VarintConcat: the walk. -/
import Derived.Test.YtfppnaaofkicaabDrSplit
import Derived.Test.YtfppnaaofkicaabSame
import Derived.Test.YtfppnaaofkicaabCat
namespace Go.Proofs.Ytfppnaaofkicaab
open Go.RowKit
set_option linter.unusedVariables false
set_option linter.unusedSimpArgs false

/-- A slice of ints that is not nil, as a value with an address. -/
theorem own_addr {w : World} {B n : Nat} {e : TypeId} {k : Nat} {v : Value} {xs : List Value} (h : w.ownsRow B e k v n xs) (hn : v ≠ .slice none 0 0) : ∃ g c, v = .slice (some ⟨g, 0, none⟩) n c := by
  obtain ⟨_, ⟨h, _⟩ | ⟨g, c, cur, h, _⟩⟩ := h
  · exact absurd h hn
  · exact ⟨g, c, h⟩
theorem hold {p : Prop} (h : Hid p) : p := h
theorem unhold {p : Prop} (h : p) : Hid p := h
theorem one_ints (xs : List Int) : ∀ u ∈ xs.map (Value.int .i64), u.oneCell' = true := by
  intro u hu
  obtain ⟨x, _, rfl⟩ := List.mem_map.1 hu
  rfl

section
variable {P : Program} {w : World}
/-- 'append(out, x...)' to a row of the call's own, at an operation whose guard says yes. -/
theorem wpList_append_own_w {ops : Array Oper} {rest : List Oper} {o : Oper} {a : Act} {Q : Exit → Act → World → Prop} (hgd : Region.wanted o (yielded ops a.tmps) = true) (s x : Operand) (t : TypeId)
    (ho : o.op = .call { callee := .builtin .append, args := #[s, x], argTypes := #[t, t] })
    (base : Nat) (e : TypeId) (i : TypeInfo) (z : Value) (size bytes : Nat) (ht : P.underlying t = some (.slice e)) (hi : P.info? e = some i) (hz : i.zero = some z)
    (hsize : i.size = size) (hby : i.bytes = bytes) (hzs : z.cells.size = size) (hsz : 0 < size)
    (v : Value) (n : Nat) (xs : List Value) (hs : a.eval s = v) (hown : w.ownsRow base e size v n xs)
    (ad : Addr) (m c : Nat) (news : List Value) (hx : a.eval x = .slice (some ad) m c) (hl : news.length = m * size) (hnews : ∀ j u, news[j]? = some u → w.cell? (ad.add j) = some u) (h1 : ∀ u ∈ news, u.oneCell' = true)
    (h63 : n + m ≤ maxLen) (hbytes : (n + m) * bytes ≤ 140737488355328) (hbase : base ≤ w.heap.size)
    (h : ∀ v' w', w'.ownsRow base e size v' (n + m) (xs ++ news) → w.grownBy w' v.ownBlock → (v' = .slice none 0 0 ↔ v = .slice none 0 0 ∧ m = 0) → wpList P ops Q rest (a.put o.dst v') w') : wpList P ops Q (o :: rest) a w :=
  wpList_step fun K hK => by
    rw [if_pos hgd]
    exact wp_append_own w s x t ho base e i z size bytes ht hi hz hsize hby hzs hsz v n xs hs hown ad m c news hx hl hnews h1 h63 hbytes hbase fun v' w' h2 h3 h4 => hK _ _ (h v' w' h2 h3 h4)
end

set_option maxHeartbeats 1000000 in
theorem concat_walk (a : Option Addr) (len cap : Nat) (zs : List Int) (a1 : Option Addr) (len1 cap1 : Nat) (zs1 : List Int) (w : World) (h : IsRow .u8 w a len cap zs) (h1 : IsRow .u8 w a1 len1 cap1 zs1) :
    Calls Try.prog 3 #[.slice a len cap, .slice a1 len1 cap1] w fun e w' => e = .returned (.bool true) ∧ Below w.heap.size w w' := by
  obtain ⟨i0, hi, hz0, hz1, hz2⟩ := info_parts try_infoInt
  have HI := Lib.hid hi
  have H := Lib.hid h
  have H1 := Lib.hid h1
  clear hi h h1
  by_cases hl : 1048576 < len
  · go_enter Try.func3, Try.ntmps3
    go_wp2
    go_ret
    exact ⟨rfl, Below.refl _ _⟩
  by_cases hl1 : 1048576 < len1
  · go_enter Try.func3, Try.ntmps3
    go_wp2
    go_ret
    exact ⟨rfl, Below.refl _ _⟩
  go_enter Try.func3, Try.ntmps3
  go_wp2_with fail
  refine (drawSplit_any a len cap zs w H.out).mono ?_
  rintro e w1 ⟨s, hs, rfl, hb⟩
  have B1 := Lib.hid hb
  have HSM := Lib.hid (show s.size ≤ maxLen by unfold maxLen; omega)
  obtain ⟨ok, hok⟩ : ∃ ok, (splF s).isSome = ok := ⟨_, rfl⟩
  obtain ⟨xs, hxs⟩ : ∃ xs, (splF s).getD [] = xs := ⟨_, rfl⟩
  have HOK := Lib.hid hok
  have HXS := Lib.hid hxs
  have hlx : xs.length ≤ 20 := by rw [← hxs]; exact splF_len s
  clear hok hxs hb
  have hxx : (xs == xs) = true := by simp
  go_wp2_with fail
  refine (isplit_any s w1 HSM.out).mono ?_
  rintro e w2 ⟨v1, rfl, hb2, ho1, hn1⟩
  rw [HXS.out] at ho1
  rw [HOK.out]
  have O1 := Lib.hid ho1
  have N1 := Lib.hid hn1
  have B2 := Lib.hid (B1.out.trans (hb2.mono B1.out.size))
  clear ho1 hb2 hn1
  go_wp2_with fail
  refine (ssplit_any s w2 HSM.out).mono ?_
  rintro e w3 ⟨v0, rfl, hb3, ho0, _⟩
  rw [HXS.out] at ho0
  rw [HOK.out]
  have I0 := Lib.hid (Ints.of_own ho0)
  have O1b := Lib.hid (own_below O1.out hb3)
  have I1 := Lib.hid (Ints.of_own O1b.out)
  have B3 := Lib.hid (B2.out.trans (hb3.mono B2.out.size))
  clear ho0 hb3
  cases ok
  · go_wp2_with fail
    refine (same_any v1 v0 xs xs w3 I1.out I0.out (by omega) (by omega)).mono ?_
    rintro e w4 ⟨rfl, hb4⟩
    rw [hxx]
    have B4 := Lib.hid (B3.out.trans (hb4.mono B3.out.size))
    have I0b := Lib.hid (I0.out.below hb4)
    have I1b := Lib.hid (I1.out.below hb4)
    clear hb4
    go_wp2_with fail
    refine (same_any v1 v0 xs xs w4 I1b.out I0b.out (by omega) (by omega)).mono ?_
    rintro e w5 ⟨rfl, hb5⟩
    rw [hxx]
    have B5 := Lib.hid (B4.out.trans (hb5.mono B4.out.size))
    clear hb5
    go_wp2_with fail
    go_ret
    exact ⟨rfl, B5.out⟩
  · go_wp2_with fail
    refine (same_any v1 v0 xs xs w3 I1.out I0.out (by omega) (by omega)).mono ?_
    rintro e w4 ⟨rfl, hb4⟩
    rw [hxx]
    have B4 := Lib.hid (B3.out.trans (hb4.mono B3.out.size))
    have O1c := Lib.hid (own_below O1b.out hb4)
    clear hb4
    go_wp2_with fail
    refine (drawSplit_any a1 len1 cap1 zs1 w4 (H1.out.below B4.out)).mono ?_
    rintro e w5 ⟨t, ht, rfl, hb5⟩
    have HTM := Lib.hid (show t.size ≤ maxLen by unfold maxLen; omega)
    have B5 := Lib.hid (B4.out.trans (hb5.mono B4.out.size))
    have O1d := Lib.hid (own_below O1c.out hb5)
    obtain ⟨ok2, hok2⟩ : ∃ ok, (splF t).isSome = ok := ⟨_, rfl⟩
    obtain ⟨ys, hys⟩ : ∃ ys, (splF t).getD [] = ys := ⟨_, rfl⟩
    have HOK2 := Lib.hid hok2
    have HYS := Lib.hid hys
    have hly : ys.length ≤ 20 := by rw [← hys]; exact splF_len t
    clear hb5 hok2 hys
    go_wp2_with fail
    refine (isplit_any t w5 HTM.out).mono ?_
    rintro e w6 ⟨v2, rfl, hb6, ho2, hn2⟩
    rw [HYS.out] at ho2
    rw [HOK2.out]
    have B6 := Lib.hid (B5.out.trans (hb6.mono B5.out.size))
    have O1e := Lib.hid (own_below O1d.out hb6)
    obtain ⟨g1, c1, rfl⟩ := own_addr O1e.out N1.out
    obtain ⟨g2, c2, rfl⟩ := own_addr ho2 hn2
    have O2 := Lib.hid ho2
    clear hb6 ho2 hn2
    cases ok2
    · go_wp2_with fail
      go_ret
      exact ⟨rfl, B6.out⟩
    · by_cases hsum : 20 < xs.length + ys.length
      · have hsum' : (20 : Int) < (xs.length : Int) + (ys.length : Int) := by omega
        go_wp2_with fail
        go_ret
        exact ⟨rfl, B6.out⟩
      · have hsum' : ¬ (20 : Int) < (xs.length : Int) + (ys.length : Int) := by omega
        have hsome : splF (s ++ t) = some (xs ++ ys) := by
          refine splF_cat s t xs ys ?_ ?_ (by omega)
          · have e1 := HOK.out
            have e2 := HXS.out
            cases hq : splF s with
            | none => rw [hq] at e1; cases e1
            | some l => rw [hq] at e2; simp at e2; rw [e2]
          · have e1 := HOK2.out
            have e2 := HYS.out
            cases hq : splF t with
            | none => rw [hq] at e1; cases e1
            | some l => rw [hq] at e2; simp at e2; rw [e2]
        have HCM := Lib.hid (show (s ++ t).size ≤ maxLen by rw [size_app]; unfold maxLen; omega)
        have HSOME := Lib.hid hsome
        clear hsome
        go_wp2_with fail
        refine (isplit_any (s ++ t) w6 HCM.out).mono ?_
        rintro e w7 ⟨v3, rfl, hb7, ho3, hn3⟩
        rw [HSOME.out] at ho3
        rw [HSOME.out]
        have O3 := Lib.hid ho3
        have B7 := Lib.hid (B6.out.trans (hb7.mono B6.out.size))
        have O1f := Lib.hid (own_below O1e.out hb7)
        have O2f := Lib.hid (own_below O2.out hb7)
        clear hb7 ho3 hn3
        have O4 := Lib.hid (ownsRow_empty_at w7.heap.size w7 (Nat.le_refl _))
        have B8 := Lib.hid (B7.out.alloc B7.out.size (.cells #[] 3))
        go_wp2_with (at_builtin; refine wpList_append_own_w ?c0 (.tmp 83) (.tmp 84) 24 rfl w7.heap.size 3 i0 (.int .i64 0) 1 8 Try.underlying24 HI.out hz0 hz1 hz2 rfl (by decide) _ _ _ rfl O4.out ⟨g1, 0, none⟩ xs.length c1 (xs.map (Value.int .i64)) rfl (by simp) ((O1f.out.alloc _).cells rfl) (one_ints xs) ?c3 ?c4 ?c5 ?_)
        case c3 => unfold maxLen; omega
        case c4 => omega
        case c5 => simp
        intro v4 w8 hown8 hgrow8 hiff8
        have B9 := Lib.hid (B8.out.grown hgrow8 B8.out.size (fun k hk => by have := (O4.out.lt k hk).1; have := B7.out.size; omega))
        have O2g := Lib.hid ((O2f.out.alloc (.cells #[] 3)).kept hgrow8 (own_ne O2f.out O4.out (Nat.le_refl _)))
        have O3g := Lib.hid ((O3.out.alloc (.cells #[] 3)).kept hgrow8 (own_ne O3.out O4.out (Nat.le_refl _)))
        have O5 := Lib.hid hown8
        have hs8 := hgrow8.size
        clear hown8 hgrow8 hiff8
        go_wp2_with (at_builtin; refine hold ?_)
        refine unhold ?_
        refine wpList_append_own_w (w := w8) ?x0 (.tmp 85) (.tmp 86) 24 rfl w7.heap.size 3 i0 (.int .i64 0) 1 8 Try.underlying24 HI.out hz0 hz1 hz2 rfl (by decide) v4 _ _ ?d3 O5.out ⟨g2, 0, none⟩ ys.length c2 (ys.map (Value.int .i64)) ?ca ?cb ?cd ?ce ?x3 ?x4 ?x5 ?_
        case x0 => rfl
        case d3 => rfl
        case ca => rfl
        case cb => simp
        case cd => exact O2g.out.cells rfl
        case ce => exact one_ints ys
        case x3 => unfold maxLen; omega
        case x4 => omega
        case x5 => simp at hs8; omega
        intro v5 w9 hown9 hgrow9 hiff9
        have B10 := Lib.hid (B9.out.grown hgrow9 B9.out.size (fun k hk => by have := (O5.out.lt k hk).1; have := B7.out.size; omega))
        have O3h := Lib.hid (O3g.out.kept hgrow9 (own_ne O3.out O5.out (Nat.le_refl _)))
        have I3 := Lib.hid (Ints.of_own O3h.out)
        have I5 := Lib.hid (Ints.of_own (xs := xs ++ ys) (by simpa using hown9))
        have hqq : ((some (xs ++ ys)).getD [] == xs ++ ys) = true := by simp
        have HQ := Lib.hid hqq
        clear hown9 hgrow9 hiff9 hqq
        go_wp2_with fail
        refine (same_any v3 v5 _ (xs ++ ys) w9 I3.out I5.out (by simp; omega) (by simp; omega)).mono ?_
        rintro e w10 ⟨rfl, hb10⟩
        rw [HQ.out]
        have B11 := Lib.hid (B10.out.trans (hb10.mono B10.out.size))
        clear hb10
        go_wp2_with fail
        go_ret
        exact ⟨rfl, B11.out⟩

end Go.Proofs.Ytfppnaaofkicaab
