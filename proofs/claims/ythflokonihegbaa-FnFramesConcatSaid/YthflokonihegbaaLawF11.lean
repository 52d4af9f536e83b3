/- The law FramesConcat: the walk. -/
import Derived.Test.YthflokonihegbaaLawF10
namespace Go.Proofs.Ythflokonihegbaa
open Go.RowKit
set_option linter.unusedVariables false
set_option linter.unusedSimpArgs false

/-- 'append' under a guard that is on. -/
theorem wpList_append_want {ops : Array Oper} {rest : List Oper} {o : Oper} {a : Act} {w : World} {Q : Exit → Act → World → Prop} (hw : Region.wanted o (yielded ops a.tmps) = true) (s x : Operand) (t : TypeId)
    (ho : o.op = .call { callee := .builtin .append, args := #[s, x], argTypes := #[t, t] })
    (base : Nat) (e : TypeId) (i : TypeInfo) (z : Value) (size bytes : Nat) (ht : Try.prog.underlying t = some (.slice e)) (hi : Try.prog.info? e = some i) (hz : i.zero = some z)
    (hsize : i.size = size) (hby : i.bytes = bytes) (hzs : z.cells.size = size) (hsz : 0 < size)
    (v : Value) (n : Nat) (xs : List Value) (hs : a.eval s = v) (hown : w.ownsRow base e size v n xs)
    (ad : Addr) (m c : Nat) (news : List Value) (hx : a.eval x = .slice (some ad) m c) (hl : news.length = m * size) (hnews : ∀ j u, news[j]? = some u → w.cell? (ad.add j) = some u) (h1 : ∀ u ∈ news, u.oneCell' = true)
    (h63 : n + m ≤ maxLen) (hbytes : (n + m) * bytes ≤ 140737488355328) (hbase : base ≤ w.heap.size)
    (h : ∀ v' w', w'.ownsRow base e size v' (n + m) (xs ++ news) → w.grownBy w' v.ownBlock → wpList Try.prog ops Q rest (a.put o.dst v') w') :
    wpList Try.prog ops Q (o :: rest) a w := by
  refine wpList_step fun K hK => ?_
  rw [if_pos hw]
  obtain ⟨v', w', hr, h2, h3, h4, h5⟩ := run_append_own_at (P := Try.prog) w base t o.type e i z size bytes ht hi hz hsize hby hzs hsz v n xs hown ad m c news hl hnews h1 h63 hbytes hbase
  unfold Oper.wp execOp
  simp only [ho, resolve, invoke, builtin, Sem.run_bind, Sem.run_pure, Result.andThen_ok, List.map_toArray, List.map_cons, List.map_nil, hs, hx, hr]
  exact hK _ _ (h v' w' h2 h3)
theorem fcells_app (l m : List FrR) : fcells (l ++ m) = fcells l ++ fcells m := by simp [fcells]
theorem fcells_one (l : List FrR) : ∀ u ∈ fcells l, u.oneCell' = true := by
  intro u hu
  simp only [fcells, List.mem_flatMap] at hu
  obtain ⟨r, _, hu⟩ := hu
  exact one6 r u hu
/-- A row of frames reads as its frames. -/
theorem rows_frs {w : World} {B : Nat} {v : Value} {l : List FrR} (h1 : w.ownsRow B 25 6 v l.length (fcells l)) (h2 : ∀ r ∈ l, Rngs w (fsl r) r.1.rs) : Frs w v (l.map Prod.fst) := by
  have h' := h1
  obtain ⟨_, ⟨rfl, h0⟩ | ⟨g, c, cur, rfl, _⟩⟩ := h1
  · exact ⟨none, 0, by simp [h0], fun hx => absurd (by simp [List.length_eq_zero_iff.1 h0]) hx⟩
  · refine ⟨some ⟨g, 0, none⟩, c, by simp, fun _ => ⟨g, 0, rfl, fun i hi => ?_⟩⟩
    have hi' : i < l.length := by simpa using hi
    have e : (l.map Prod.fst).getD i frD = l[i].1 := by rw [List.getD_eq_getElem?_getD, List.getElem?_map, List.getElem?_eq_getElem hi']; rfl
    rw [e, Nat.zero_add]
    have hc : ∀ j, j < 6 → w.cell? ⟨g, i * 6 + j, none⟩ = (fcell l[i])[j]? := fun j hj => (h'.cellAt (i * 6 + j) (by omega)).trans (fcells_at l i j hi' hj)
    exact ⟨l[i].2.1, l[i].2.2, hc 0 (by omega), hc 1 (by omega), hc 2 (by omega), hc 3 (by omega), hc 4 (by omega), hc 5 (by omega), h2 _ (List.getElem_mem hi')⟩
/-- A row that is not empty has its cells where its slice says. -/
theorem row_cells {w : World} {B : Nat} {v : Value} {l : List FrR} (h : w.ownsRow B 25 6 v l.length (fcells l)) (hl : l ≠ []) : ∃ g c, v = .slice (some ⟨g, 0, none⟩) l.length c ∧ ∀ j u, (fcells l)[j]? = some u → w.cell? ((⟨g, 0, none⟩ : Addr).add j) = some u := by
  have h' := h
  obtain ⟨_, ⟨rfl, h0⟩ | ⟨g, c, cur, rfl, _⟩⟩ := h
  · exact absurd (List.length_eq_zero_iff.1 h0) hl
  · refine ⟨g, c, rfl, fun j u hu => ?_⟩
    have hj : j < l.length * 6 := by
      have := (List.getElem?_eq_some_iff.1 hu).1
      rwa [fcells_len] at this
    have e : ((⟨g, 0, none⟩ : Addr).add j) = ⟨g, j, none⟩ := by
      unfold Addr.add; split
      · rename_i h0; rw [h0]
      · simp
    rw [e]
    exact (h'.cellAt j hj).trans hu

set_option maxRecDepth 100000 in
set_option maxHeartbeats 2000000 in
theorem fscat_walk (a : Option Addr) (len cap : Nat) (zs : List Int) (a1 : Option Addr) (len1 cap1 : Nat) (zs1 : List Int) (w : World) (h : IsRow .u8 w a len cap zs) (h1 : IsRow .u8 w a1 len1 cap1 zs1) :
    Calls Try.prog 9 #[.slice a len cap, .slice a1 len1 cap1] w fun e w' => e = .returned (.bool true) ∧ Below w.heap.size w w' := by
  have H := Lib.hid h
  have H1 := Lib.hid h1
  clear h h1
  by_cases hl : 1048576 < len
  · go_enter Try.func9, Try.ntmps9
    go_wp2
    go_ret
    exact ⟨rfl, Below.refl _ _⟩
  by_cases hl1 : 1048576 < len1
  · go_enter Try.func9, Try.ntmps9
    go_wp2
    go_ret
    exact ⟨rfl, Below.refl _ _⟩
  go_enter Try.func9, Try.ntmps9
  go_wp2_with fail
  refine (drawTFs_any a len cap zs w H.out).mono ?_
  rintro e w1 ⟨s, hs, rfl, hb⟩
  have HB1 := Lib.hid hb
  have HSZ : Hid (s.size ≤ 1300000) := Lib.hid (by omega)
  clear hb
  obtain ⟨o, ho⟩ : ∃ o, fsF s = o := ⟨_, rfl⟩
  have IS := Lib.hid (ifsdec_any s w1 (by have := HSZ.out; omega))
  have SS := Lib.hid (fun W => sfsdec_any s W (by have := HSZ.out; omega))
  unfold FdsPost at IS SS
  rw [ho] at IS SS
  have HLN : Hid (∀ f ∈ o.getD [], f.rs.length ≤ 1048576 ∧ f.d.size ≤ 2097152) := Lib.hid (by
    cases o with
    | none => intro f hf; simp at hf
    | some l => exact okF_mem (fsok_parts (fsF_some ho).1).1)
  have HL6 : Hid ((o.getD []).length ≤ 6) := Lib.hid (by
    cases o with
    | none => simp
    | some l => have := (fsok_parts (fsF_some ho).1).2.2; simp only [Option.getD_some]; omega)
  have HO := Lib.hid ho
  clear ho
  cases o with
  | none =>
    simp only [Option.isSome_none, Option.getD_none] at IS SS HLN
    go_wp2_with fail
    refine IS.out.mono ?_
    rintro e w2 ⟨v2, rows2, rfl, hr2, hb2, ho2⟩
    have hf2 := ho2.frs
    rw [hr2] at hf2
    have HF2 := Lib.hid hf2
    have HB2 := Lib.hid (HB1.out.trans (hb2.mono HB1.out.size))
    clear hr2 hb2 ho2 hf2
    go_wp2_with fail
    refine (SS.out _).mono ?_
    rintro e w3 ⟨v3, rows3, rfl, hr3, hb3, ho3⟩
    have hf3 := ho3.frs
    rw [hr3] at hf3
    have HF3 := Lib.hid hf3
    have HF23 := Lib.hid (HF2.out.below hb3)
    have HB3 := Lib.hid (HB2.out.trans (hb3.mono HB2.out.size))
    clear hr3 hb3 ho3 hf3
    go_wp2_with fail
    refine (samefs_any v2 v3 [] w3 HF23.out HF3.out (by simp) HLN.out).mono ?_
    rintro e w4 ⟨rfl, hb4⟩
    have HF24 := Lib.hid (HF23.out.below hb4)
    have HF34 := Lib.hid (HF3.out.below hb4)
    have HB4 := Lib.hid (HB3.out.trans (hb4.mono HB3.out.size))
    clear hb4
    go_wp2_with fail
    refine (samefs_any v2 v3 [] w4 HF24.out HF34.out (by simp) HLN.out).mono ?_
    rintro e w5 ⟨rfl, hb5⟩
    have HB5 := Lib.hid (HB4.out.trans (hb5.mono HB4.out.size))
    clear hb5
    go_wp2_with fail
    go_ret
    exact ⟨rfl, HB5.out⟩
  | some l =>
    simp only [Option.isSome_some, Option.getD_some] at IS SS HLN HL6
    go_wp2_with fail
    refine IS.out.mono ?_
    rintro e w2 ⟨v2, rows2, rfl, hr2, hb2, ho2⟩
    obtain ⟨la2, lc2, rfl⟩ := ownsRow_shape ho2.1
    have HR2 := Lib.hid hr2
    have HO2 := Lib.hid ho2
    have HB2 := Lib.hid (HB1.out.trans (hb2.mono HB1.out.size))
    clear hr2 hb2 ho2
    go_wp2_with fail
    refine (SS.out _).mono ?_
    rintro e w3 ⟨v3, rows3, rfl, hr3, hb3, ho3⟩
    have hf3 := ho3.frs
    rw [hr3] at hf3
    have HF3 := Lib.hid hf3
    have HO3 := Lib.hid (HO2.out.below hb3)
    have HB3 := Lib.hid (HB2.out.trans (hb3.mono HB2.out.size))
    have hf2 := HO3.out.frs
    rw [HR2.out] at hf2
    have HF23 := Lib.hid hf2
    clear hr3 hb3 ho3 hf3 hf2
    go_wp2_with fail
    refine (samefs_any _ v3 l w3 HF23.out HF3.out (by have := HL6.out; omega) HLN.out).mono ?_
    rintro e w4 ⟨rfl, hb4⟩
    have HO4 := Lib.hid (HO3.out.below hb4)
    have HB4 := Lib.hid (HB3.out.trans (hb4.mono HB3.out.size))
    clear hb4
    go_wp2_with fail
    refine (drawTFs_any a1 len1 cap1 zs1 w4 (H1.out.below HB4.out)).mono ?_
    rintro e w5 ⟨t, ht, rfl, hb5⟩
    have HO5 := Lib.hid (HO4.out.below hb5)
    have HB5 := Lib.hid (HB4.out.trans (hb5.mono HB4.out.size))
    have HTZ : Hid (t.size ≤ 1300000) := Lib.hid (by omega)
    clear hb5
    obtain ⟨o2, ho2⟩ : ∃ o, fsF t = o := ⟨_, rfl⟩
    have IT := Lib.hid (ifsdec_any t w5 (by have := HTZ.out; omega))
    unfold FdsPost at IT
    rw [ho2] at IT
    have HT := Lib.hid ho2
    clear ho2
    cases o2 with
    | none =>
      simp only [Option.isSome_none, Option.getD_none] at IT
      go_wp2_with fail
      refine IT.out.mono ?_
      rintro e w6 ⟨v6, rows6, rfl, hr6, hb6, ho6⟩
      have HB6 := Lib.hid (HB5.out.trans (hb6.mono HB5.out.size))
      clear hr6 hb6 ho6
      go_wp2_with fail
      go_ret
      exact ⟨rfl, HB6.out⟩
    | some m =>
      simp only [Option.isSome_some, Option.getD_some] at IT
      have HTWO := Lib.hid (fsF_two HO.out HT.out)
      have hm6 := (fsok_parts (fsF_some HT.out).1).2
      have hl6 := (fsok_parts (fsF_some HO.out).1).2
      obtain ⟨hq2a, hq2b⟩ : rows2.length ≤ l.length ∧ l.length ≤ rows2.length := by rw [← HR2.out, List.length_map]; omega
      have HMN : Hid (∀ f ∈ m, f.rs.length ≤ 1048576 ∧ f.d.size ≤ 2097152) := Lib.hid (okF_mem (fsok_parts (fsF_some HT.out).1).1)
      go_wp2_with fail
      refine IT.out.mono ?_
      rintro e w6 ⟨v6, rows6, rfl, hr6, hb6, ho6⟩
      obtain ⟨la6, lc6, rfl⟩ := ownsRow_shape ho6.1
      obtain ⟨hq6a, hq6b⟩ : rows6.length ≤ m.length ∧ m.length ≤ rows6.length := by rw [← hr6, List.length_map]; omega
      have HR6 := Lib.hid hr6
      have HO6 := Lib.hid ho6
      have HP6 := Lib.hid (HO5.out.below hb6)
      have HB6 := Lib.hid (HB5.out.trans (hb6.mono HB5.out.size))
      have hcat : ¬ 9223372036854775807 < s.size + t.size := by have := HSZ.out; have := HTZ.out; omega
      have IA := Lib.hid (ifsdec_any (s ++ t) w6 (by have := HSZ.out; have := HTZ.out; rw [size_app]; omega))
      unfold FdsPost at IA
      rw [HTWO.out] at IA
      clear hr6 hb6 ho6
      have hw1 : IntKind.i64.wrap ((rows2.length : Int) + (rows6.length : Int)) = (rows2.length : Int) + (rows6.length : Int) := IntWalk.i64_in _ (by omega)
      by_cases hsum : l.length + m.length ≤ 6
      · rw [if_pos hsum] at IA
        simp only [Option.isSome_some, Option.getD_some] at IA
        have hs6 : ¬ (6 : Int) < (rows2.length : Int) + (rows6.length : Int) := by omega
        obtain ⟨i0, hi, hz0, hz1, hz2⟩ := info_parts try_infoFrame
        have HI := Lib.hid hi
        clear hi
        go_wp2_with fail
        refine IA.out.mono ?_
        rintro e w7 ⟨v7, rows7, rfl, hr7, hb7, ho7⟩
        have hf7 := ho7.frs
        rw [hr7] at hf7
        have HF7 := Lib.hid hf7
        have HB7 := Lib.hid (HB6.out.trans (hb7.mono HB6.out.size))
        have HP7 := Lib.hid (HP6.out.below hb7)
        have HO7 := Lib.hid (HO6.out.below hb7)
        obtain ⟨g2, cc2, he2, hc2⟩ := row_cells HP7.out.1 (by intro e; have hz : rows2.length = 0 := (by rw [e]; rfl); omega)
        obtain ⟨g6, cc6, he6, hc6⟩ := row_cells HO7.out.1 (by intro e; have hz : rows6.length = 0 := (by rw [e]; rfl); omega)
        injection he2 with he2a he2b he2c
        injection he6 with he6a he6b he6c
        subst he2a he2c he6a he6c
        have BN : Hid (Below w7.heap.size w7 (w7.alloc (.cells #[] 25))) := Lib.hid ((Below.refl _ _).alloc (Nat.le_refl _) _)
        have HC2 : Hid (∀ j u, (fcells rows2)[j]? = some u → (w7.alloc (.cells #[] 25)).cell? ((⟨g2, 0, none⟩ : Addr).add j) = some u) := Lib.hid (fun j u hu => by
          have := hc2 j u hu
          exact (BN.out.cell (World.block_lt_of_cell? w7 _ this)).trans this)
        clear hr7 hb7 ho7 hf7 hc2 hc6 he2b he6b
        go_wp2_with (at_builtin; refine hold ?_)
        refine unhold ?_
        refine wpList_append_want (w := w7.alloc (.cells #[] 25)) (by rfl) (.tmp 83) (.tmp 84) 35 rfl w7.heap.size 25 i0 (.agg #[.int .i64 0, .int .i64 0, .int .i64 0, .int .i64 0, .string ⟨#[]⟩, .slice none 0 0]) 6 72 Try.underlying35 HI.out hz0 hz1 hz2 rfl (by decide) _ _ _ rfl (own_new 25 6 w7.heap.size w7 (Nat.le_refl _)) ⟨g2, 0, none⟩ rows2.length lc2 (fcells rows2) rfl (fcells_len _) HC2.out (fcells_one _) ?a1 ?a2 ?a3 ?_
        case a1 => unfold maxLen; omega
        case a2 => omega
        case a3 => simp
        intro v8 w8 ho8 hg8
        have HO8 := Lib.hid ho8
        have B8 : Hid (Below w7.heap.size w7 w8) := Lib.hid (below_kept BN.out (own_new 25 6 w7.heap.size w7 (Nat.le_refl _)) BN.out.size hg8)
        have HP8 := Lib.hid (HP7.out.below B8.out)
        have HO8b := Lib.hid (HO7.out.below B8.out)
        obtain ⟨g6', cc6', he6, hc6⟩ := row_cells HO8b.out.1 (by intro e; have hz : rows6.length = 0 := (by rw [e]; rfl); omega)
        injection he6 with he6a he6b he6c
        injection he6a with he6a
        have HC6 : Hid (∀ j u, (fcells rows6)[j]? = some u → w8.cell? ((⟨g6, 0, none⟩ : Addr).add j) = some u) := Lib.hid (fun j u hu => by rw [he6a]; exact hc6 j u hu)
        clear ho8 hg8 he6a he6b he6c hc6
        go_wp2_with (at_builtin; refine hold ?_)
        refine unhold ?_
        refine wpList_append_want (w := w8) (by rfl) (.tmp 85) (.tmp 86) 35 rfl w7.heap.size 25 i0 (.agg #[.int .i64 0, .int .i64 0, .int .i64 0, .int .i64 0, .string ⟨#[]⟩, .slice none 0 0]) 6 72 Try.underlying35 HI.out hz0 hz1 hz2 rfl (by decide) _ _ _ rfl HO8.out ⟨g6, 0, none⟩ rows6.length lc6 (fcells rows6) rfl (fcells_len _) HC6.out (fcells_one _) ?b1 ?b2 ?b3 ?_
        case b1 => unfold maxLen; omega
        case b2 => omega
        case b3 => exact B8.out.size
        intro v9 w9 ho9 hg9
        have B9 : Hid (Below w7.heap.size w7 w9) := Lib.hid (below_kept B8.out HO8.out B8.out.size hg9)
        have HF9 : Hid (Frs w9 v9 (l ++ m)) := Lib.hid (by
          have hh : w9.ownsRow w7.heap.size 25 6 v9 (rows2 ++ rows6).length (fcells (rows2 ++ rows6)) := by
            rw [List.length_append, fcells_app]
            have := ho9
            rw [Nat.zero_add, List.nil_append] at this
            exact this
          have := rows_frs hh (fun r hr => by
            rcases List.mem_append.1 hr with hr | hr
            · exact (Rngs.of_own (HP7.out.2 r hr).1).below B9.out
            · exact (Rngs.of_own (HO7.out.2 r hr).1).below B9.out)
          rw [List.map_append, HR2.out, HR6.out] at this
          exact this)
        have HB9 := Lib.hid (HB7.out.trans (B9.out.mono HB7.out.size))
        have HF79 := Lib.hid (HF7.out.below B9.out)
        clear ho9 hg9
        go_wp2_with fail
        refine (samefs_any v7 v9 (l ++ m) w9 HF79.out HF9.out (by rw [List.length_append]; omega) (fun f hf => by
          rcases List.mem_append.1 hf with hf | hf
          · exact HLN.out f hf
          · exact HMN.out f hf)).mono ?_
        rintro e w10 ⟨rfl, hb10⟩
        have HB10 := Lib.hid (HB9.out.trans (hb10.mono HB9.out.size))
        clear hb10
        go_wp2_with fail
        go_ret
        exact ⟨rfl, HB10.out⟩
      · rw [if_neg hsum] at IA
        simp only [Option.isSome_none, Option.getD_none] at IA
        have hs6 : (6 : Int) < (rows2.length : Int) + (rows6.length : Int) := by omega
        go_wp2_with fail
        refine IA.out.mono ?_
        rintro e w7 ⟨v7, rows7, rfl, hr7, hb7, ho7⟩
        have HB7 := Lib.hid (HB6.out.trans (hb7.mono HB6.out.size))
        clear hr7 hb7 ho7
        go_wp2_with fail
        go_ret
        exact ⟨rfl, HB7.out⟩
end Go.Proofs.Ythflokonihegbaa
