/- The exact law of ServersTry: a row of registers of the law's own, the blocks in which it lies; the walk. -/
import Derived.Test.YtlhjhdlpejpooabMkRgS
import Derived.Test.YtlhjhdlpejpooabISv
import Derived.Test.YtlhjhdlpejpooabSSv
import Derived.Test.YtlhjhdlpejpooabRowT2
namespace Go.Proofs.Ytlhjhdlpejpooab
open Go.RowKit
set_option linter.unusedVariables false
set_option linter.unusedSimpArgs false

theorem stry_bds {L : List Reg} {i : Int} {t : Tic} (hl : L.length ≤ 1048576) (hlen : ∀ r ∈ L, r.2.length ≤ 1048576) : (stry L i t).1.length ≤ 1048576 ∧ ∀ r ∈ (stry L i t).1, r.2.length ≤ 1048576 := by
  by_cases h : sok L ∧ tkvd t ∧ (0 ≤ i ∧ i < L.length)
  · by_cases hn : i = home L.length t
    · rw [stry_home h hn]
      refine ⟨by simpa using hl, fun r hr => ?_⟩
      rcases List.mem_or_eq_of_mem_set hr with h1 | h1
      · exact hlen r h1
      · subst h1
        have hok : regok (L.getD i.toNat rgD) := by
          have hlt : i.toNat < L.length := by omega
          have := (takeRg L i.toNat hlt).2
          exact h.1.2 _ this
        have := (rtry_ok hok h.2.1).2.1
        simp only at this ⊢
        omega
    · rw [stry_away h hn]; exact ⟨hl, hlen⟩
  · rw [stry_no h]; exact ⟨by simp, fun r hr => by simp at hr⟩

theorem OwnTc.spn {B T N : Nat} {w w' : World} {v : Value} {l : List Tic} (h : Spn B T w w') (ho : OwnTc w N v l) (hq : ∀ g, v.ownBlock = some g → g < B ∨ T ≤ g) : OwnTc w' N v l := by
  obtain ⟨h0, h1 | ⟨g, c, cur, e, hb, hg, hr⟩⟩ := ho
  · exact ⟨h0, .inl h1⟩
  · exact ⟨h0, .inr ⟨g, c, cur, e, hb, (h.block g (Array.getElem?_eq_some_iff.1 hg).1 (hq g (by rw [e]; rfl))).trans hg, hr⟩⟩
theorem ToG.spn {B T N n : Nat} {w w' : World} {f : Nat → Value} {R : Nat → Reg} (h : ToG w N n f R n) (s : Spn B T w w') (hN : N < B ∨ T ≤ N) (hf : ∀ i, i < n → ∀ q, (f i).ownBlock = some q → q < B ∨ T ≤ q) : ToG w' N n f R n := by
  have cl : ∀ {k : Nat} {u : Value}, w.cell? ⟨N, k, none⟩ = some u → w'.cell? ⟨N, k, none⟩ = some u := fun {k u} hu => (World.cell?_of_block (w := w) (a := ⟨N, k, none⟩) (s.block N (World.block_lt_of_cell? w _ hu) hN)).trans hu
  refine ⟨fun k hk => ?_, fun i hi => ?_, h.ap⟩
  · obtain ⟨⟨u, hu⟩, hfz⟩ := h.wr k hk
    exact ⟨⟨u, cl hu⟩, (World.frozen?_of_block (w := w) (a := ⟨N, k, none⟩) (s.block N (World.block_lt_of_cell? w _ hu) hN)).trans hfz⟩
  · obtain ⟨a0, a1, a2⟩ := h.tb i hi
    exact ⟨cl a0, cl a1, OwnTc.spn s a2 (hf i hi)⟩
/-- n registers R, in blocks from lo to hi. -/
def GW (w : World) (lo hi : Nat) (v : Value) (n : Nat) (R : Nat → Reg) : Prop :=
  (n = 0 ∧ ∃ a c, v = .slice a 0 c) ∨ ∃ (N c : Nat) (f : Nat → Value), v = .slice (some ⟨N, 0, none⟩) n c ∧ n ≤ c ∧ (lo ≤ N ∧ N < hi) ∧ ToG w N n f R n ∧ ∀ i, i < n → ∀ q, (f i).ownBlock = some q → lo ≤ q ∧ q < hi
theorem GW.below {w w' : World} {lo hi n : Nat} {v : Value} {R : Nat → Reg} (h : GW w lo hi v n R) (hb : Below w.heap.size w w') : GW w' lo hi v n R := by
  rcases h with h | ⟨N, c, f, h1, h2, h3, h4, h5⟩
  · exact .inl h
  · exact .inr ⟨N, c, f, h1, h2, h3, h4.below hb, h5⟩
theorem GW.spn {w w' : World} {lo hi n B T : Nat} {v : Value} {R : Nat → Reg} (h : GW w lo hi v n R) (s : Spn B T w w') (hx : hi ≤ B ∨ T ≤ lo) : GW w' lo hi v n R := by
  rcases h with h | ⟨N, c, f, h1, h2, h3, h4, h5⟩
  · exact .inl h
  · exact .inr ⟨N, c, f, h1, h2, h3, h4.spn s (by omega) (fun i hi q hq => by have := h5 i hi q hq; omega), h5⟩
theorem GW.shape {w : World} {lo hi n : Nat} {v : Value} {R : Nat → Reg} (h : GW w lo hi v n R) : ∃ a c, v = .slice a n c := by
  rcases h with ⟨rfl, a, c, rfl⟩ | ⟨N, c, f, h1, _⟩
  · exact ⟨a, c, rfl⟩
  · exact ⟨_, c, h1⟩
theorem GW.rgs {w : World} {lo hi : Nat} {v : Value} {L : List Reg} (h : GW w lo hi v L.length (fun i => L.getD i rgD)) : Rgs False w v L := by
  rcases h with ⟨h0, a, c, rfl⟩ | ⟨N, c, f, rfl, h2, h3, h4, h5⟩
  · have e := List.length_eq_zero_iff.1 h0
    subst e
    exact ⟨a, c, rfl, Nat.zero_le _, fun h => absurd rfl h⟩
  · exact h4.rgs h2
theorem ToG.rgsT {w : World} {B : Nat} {f : Nat → Value} {L : List Reg} (h : ToG w B L.length f (fun i => L.getD i rgD) L.length) (hn : ∀ i, i < L.length → (f i).ownBlock ≠ none) : Rgs True w (.slice (some ⟨B, 0, none⟩) L.length L.length) L :=
  ⟨some ⟨B, 0, none⟩, L.length, rfl, Nat.le_refl _, fun _ => ⟨B, 0, rfl, fun i hi => by
    obtain ⟨h0, h1, h2⟩ := h.tb i hi
    rw [Nat.zero_add]
    exact ⟨f i, h0, h1, Tcs.of_own h2, fun _ => hn i hi⟩⟩⟩
theorem ToG.gw {w : World} {B lo : Nat} {f : Nat → Value} {L : List Reg} (h : ToG w B L.length f (fun i => L.getD i rgD) L.length) (h1 : lo ≤ B) (h2 : B < w.heap.size) : GW w lo w.heap.size (.slice (some ⟨B, 0, none⟩) L.length L.length) L.length (fun i => L.getD i rgD) :=
  .inr ⟨B, L.length, f, rfl, Nat.le_refl _, ⟨h1, h2⟩, h, fun i hi q hq => by have := World.ownsRow.lt (h.tb i hi).2.2 q hq; omega⟩
theorem GW.of_got {w' : World} {L : List Reg} {v' : Value} {lo : Nat} (h : (v' = .slice none 0 0 ∧ L = []) ∨ ∃ (N c : Nat) (f : Nat → Value), lo ≤ N ∧ L.length ≤ c ∧ v' = .slice (some ⟨N, 0, none⟩) L.length c ∧ ToG w' N L.length f (fun i => L.getD i rgD) L.length) : GW w' lo w'.heap.size v' L.length (fun i => L.getD i rgD) := by
  rcases h with ⟨rfl, rfl⟩ | ⟨N, c, f, h1, h2, rfl, h4⟩
  · exact .inl ⟨rfl, none, 0, rfl⟩
  · by_cases h0 : L.length = 0
    · exact .inl ⟨h0, _, _, by rw [h0]⟩
    · have hlt : N < w'.heap.size := World.block_lt_of_cell? w' _ (h4.tb 0 (by omega)).1
      exact .inr ⟨N, c, f, rfl, h2, ⟨h1, hlt⟩, h4, fun i hi q hq => by have := World.ownsRow.lt (h4.tb i hi).2.2 q hq; omega⟩
theorem Spn.wide {B T B' T' : Nat} {w w' : World} (h : Spn B T w w') (h1 : B' ≤ B) (h2 : T ≤ T') : Spn B' T' w w' := ⟨h.os, h.tape, h.output, h.size, fun k hk hb => h.block k hk (by omega)⟩

/-- The ticket's variable, the copy and the program's answer; all that was there at w2 stands. -/
structure SS (w w2 W : World) (x y : Int) (v3 v4 : Value) (lo3 hi3 lo4 hi4 n3 n4 : Nat) (R3 R4 : Nat → Reg) : Prop where
  b : Below w2.heap.size w2 W
  b0 : Below w.heap.size w w2
  t : RgV W w.heap.size x (.int .i64 y)
  a : GW W lo3 hi3 v3 n3 R3
  g : GW W lo4 hi4 v4 n4 R4
  r : w.heap.size < w2.heap.size ∧ w2.heap.size ≤ lo3 ∧ hi3 ≤ lo4 ∧ lo3 ≤ hi3
theorem SS.bel {w w2 W : World} {x y : Int} {v3 v4 : Value} {lo3 hi3 lo4 hi4 n3 n4 : Nat} {R3 R4 : Nat → Reg} (h : SS w w2 W x y v3 v4 lo3 hi3 lo4 hi4 n3 n4 R3 R4) : Below w.heap.size w W := h.b0.trans (h.b.mono h.b0.size)
theorem SS.below {w w2 W W' : World} {x y : Int} {v3 v4 : Value} {lo3 hi3 lo4 hi4 n3 n4 : Nat} {R3 R4 : Nat → Reg} (h : SS w w2 W x y v3 v4 lo3 hi3 lo4 hi4 n3 n4 R3 R4) (hb : Below W.heap.size W W') : SS w w2 W' x y v3 v4 lo3 hi3 lo4 hi4 n3 n4 R3 R4 :=
  ⟨h.b.trans (hb.mono h.b.size), h.b0, h.t.below hb, h.a.below hb, h.g.below hb, h.r⟩
theorem below_spn {B T : Nat} {a w w' : World} (h : Below a.heap.size a w) (s : Spn B T w w') (hB : a.heap.size ≤ B) : Below a.heap.size a w' :=
  h.trans ⟨s.os, s.tape, s.output, s.size, fun k hk => s.block k (Nat.lt_of_lt_of_le hk h.size) (.inl (by omega))⟩
theorem RgV.spn {B T p : Nat} {w w' : World} {n : Int} {s : Value} (h : RgV w p n s) (k : Spn B T w w') (hp : p < B) : RgV w' p n s :=
  ⟨(World.cell?_of_block (w := w) (a := ⟨p, 0, none⟩) (k.block p h.lt (.inl hp))).trans h.c0, (World.cell?_of_block (w := w) (a := ⟨p, 1, none⟩) (k.block p h.lt (.inl hp))).trans h.c1⟩
theorem SS.markA {w w2 W W' : World} {x y : Int} {v3 v4 : Value} {lo3 hi3 lo4 hi4 n3 n4 : Nat} {R3 R4 M : Nat → Reg} (h : SS w w2 W x y v3 v4 lo3 hi3 lo4 hi4 n3 n4 R3 R4) (hg : GW W' lo3 hi3 v3 n3 M) (s : Spn lo3 hi3 W W') : SS w w2 W' x y v3 v4 lo3 hi3 lo4 hi4 n3 n4 M R4 := by
  obtain ⟨r1, r2, r3, r4⟩ := h.r
  exact ⟨below_spn h.b s r2, h.b0, h.t.spn s (by omega), hg, h.g.spn s (by omega), h.r⟩
theorem SS.markG {w w2 W W' : World} {x y : Int} {v3 v4 : Value} {lo3 hi3 lo4 hi4 n3 n4 : Nat} {R3 R4 M : Nat → Reg} (h : SS w w2 W x y v3 v4 lo3 hi3 lo4 hi4 n3 n4 R3 R4) (hg : GW W' lo4 hi4 v4 n4 M) (s : Spn lo4 hi4 W W') : SS w w2 W' x y v3 v4 lo3 hi3 lo4 hi4 n3 n4 R3 M := by
  obtain ⟨r1, r2, r3, r4⟩ := h.r
  exact ⟨below_spn h.b s (by omega), h.b0, h.t.spn s (by omega), h.a.spn s (by omega), hg, h.r⟩

set_option maxRecDepth 100000 in
set_option maxHeartbeats 1000000 in
theorem mkgw_any (v : Value) (n lo hi : Nat) (R : Nat → Reg) (w : World) (h : GW w lo hi v n R) (hn : n ≤ 1048576) (hlen : ∀ i, i < n → (R i).2.length ≤ 1048576) :
    Calls Try.prog 25 #[v, .int .i64 1] w fun e w' => e = .returned (.int .i64 (kAt R n)) ∧ GW w' lo hi v n (mkR R) ∧ Spn lo hi w w' := by
  rcases h with ⟨rfl, a, c, rfl⟩ | ⟨N, c, f, rfl, h2, h3, h4, h5⟩
  · go_enter Try.func25, Try.ntmps25
    go_wp2_with fail
    refine wp_loop_rounds 1 ?_
    rw [rounds_succ]
    go_wp2_with fail
    go_ret
    exact ⟨rfl, .inl ⟨rfl, _, _, rfl⟩, Spn.refl _ _ _⟩
  · refine (mkrs_any N c n hi f R w h4 hn hlen h3.2 (fun i hi q hq => (h5 i hi q hq).2)).mono ?_
    rintro e w' ⟨h6, h7, h8⟩
    exact ⟨h6, .inr ⟨N, c, f, rfl, h2, h3, h7, h5⟩, h8.wide h3.1 (Nat.le_refl _)⟩
set_option maxRecDepth 100000 in
set_option maxHeartbeats 1000000 in
theorem hdgw_any (v : Value) (n lo hi : Nat) (R : Nat → Reg) (w : World) (h : GW w lo hi v n (mkR R)) (hn : n ≤ 1048576) (hlen : ∀ i, i < n → (R i).2.length ≤ 1048576) :
    Calls Try.prog 26 #[v, .int .i64 1] w fun e w' => e = .returned (.int .i64 (kAt R n)) ∧ w = w' := by
  rcases h with ⟨rfl, a, c, rfl⟩ | ⟨N, c, f, rfl, h2, h3, h4, h5⟩
  · go_enter Try.func26, Try.ntmps26
    go_wp2_with fail
    refine wp_loop_rounds 1 ?_
    rw [rounds_succ]
    go_wp2_with fail
    go_ret
    exact ⟨rfl, rfl⟩
  · exact hdrs_any N c n f R w h4 hn hlen

set_option maxRecDepth 100000 in
set_option maxHeartbeats 8000000 in
theorem exsv_walk (a : Option Addr) (len cap : Nat) (L : List Reg) (at' x y : Int) (w : World) (hl : L.length = len ∧ len ≤ 9223372036854775807) (h : RgB w (.slice a len cap) L) (hlen : ∀ b ∈ L, b.2.length ≤ 9223372036854775807) : Calls Try.prog 5 #[.slice a len cap, .int .i64 at', .agg #[.int .i64 x, .int .i64 y]] w fun e w' => e = .returned (.bool true) ∧ Below w.heap.size w w' := by
  obtain ⟨rfl, hcap⟩ := hl
  have H := Lib.hid h
  have HLN := Lib.hid hlen
  clear h hlen
  have T0 := Lib.hid (RgV.new w x (.int .i64 y) 36)
  have B0 := Lib.hid ((Below.refl w.heap.size w).alloc (Nat.le_refl _) (.cells #[.int .i64 x, .int .i64 y] 36))
  go_enter Try.func5, Try.ntmps5
  go_wp2_with fail
  refine (szrs_any _ L _ (H.out.below B0.out) hcap HLN.out).mono ?_
  rintro e w1 ⟨z, rfl, hb1, hz⟩
  have B1 := Lib.hid (B0.out.trans (hb1.mono B0.out.size))
  have T1 := Lib.hid (T0.out.below hb1)
  clear hb1 B0 T0
  rcases hz with hz | ⟨hz, hL, hLn⟩
  · go_wp2_with fail
    go_ret
    exact ⟨rfl, B1.out⟩
  have HL8 := Lib.hid hLn
  obtain ⟨r, hr⟩ : ∃ r, stry L at' (x, y) = r := ⟨_, rfl⟩
  have hbd := stry_bds (i := at') (t := (x, y)) hL hLn
  rw [hr] at hbd
  obtain ⟨M, q⟩ := r
  obtain ⟨hM, hMn⟩ := hbd
  simp only at hM hMn
  have HM8 := Lib.hid hMn
  have HR := Lib.hid hr
  have hqq : (q != q) = false := by cases q <;> rfl
  have HLi : Hid (∀ i, i < L.length → ((fun i => L.getD i rgD) i).2.length ≤ 1048576) := Lib.hid (fun i hi => HL8.out _ (takeRg L i hi).2)
  have HMi : Hid (∀ i, i < M.length → ((fun i => M.getD i rgD) i).2.length ≤ 1048576) := Lib.hid (fun i hi => HM8.out _ (takeRg M i hi).2)
  clear hr hLn hMn hcap
  have TOR := Lib.hid (fun (W : World) (hb : Below w.heap.size w W) => tors_any _ L W (H.out.below hb) hL HL8.out)
  have SPC : Hid (∀ (W : World) (v : Value), Rgs True W v L → Calls Try.prog 21 #[v, .int .i64 at', .agg #[.int .i64 x, .int .i64 y]] W (GotRs W M q)) := Lib.hid (fun W v h => by have k := ssv_any v L at' x y W h hL HL8.out; rw [HR.out] at k; exact k)
  have IMC : Hid (∀ (W : World) (v : Value), Rgs False W v L → Calls Try.prog 23 #[v, .int .i64 at', .agg #[.int .i64 x, .int .i64 y]] W (GotSv W M q)) := Lib.hid (fun W v h => by have k := isv_any v L at' x y W h hL HL8.out; rw [HR.out] at k; exact k)
  have D0 := Lib.hid (T1.out.below (Below.refl _ _).drew)
  have E0 := Lib.hid (B1.out.drew)
  have k0 := And.intro D0.out.c0 D0.out.c1
  go_upto_region 5 with fail
  go_region_held3 (fun W => W.cell? ⟨w.heap.size, 0, none⟩ = some (.int .i64 x) ∧ W.cell? ⟨w.heap.size, 1, none⟩ = some (.int .i64 y)) (with_reducible first | assumption | exact k0 | exact k1 | exact k2 | exact k3)
    ((first
      | (go_at_call 22; (with_reducible refine (TOR.out w1.drew E0.out).mono ?_); rintro e u1 ⟨rfl, hb1, ⟨f1, hg1, hn1⟩, hz1⟩; have D1 := Lib.hid (D0.out.below hb1); have E1 := Lib.hid (E0.out.trans (hb1.mono E0.out.size)); have G1 : Hid (ToG u1 w1.heap.size L.length f1 (fun i => L.getD i rgD) L.length) := Lib.hid hg1; have N1 := Lib.hid hn1; have k1 := And.intro D1.out.c0 D1.out.c1)
      | (go_at_call 18; (with_reducible refine (totk_any x y u1).mono ?_); rintro e u2 ⟨rfl, hb2⟩; have D2 := Lib.hid (D1.out.below hb2); have E2 := Lib.hid (E1.out.trans (hb2.mono E1.out.size)); have G2 := Lib.hid (G1.out.below hb2); have k2 := And.intro D2.out.c0 D2.out.c1)
      | (go_at_call 21; (with_reducible refine (SPC.out u2 _ (G2.out.rgsT N1.out)).mono ?_); rintro e w2 ⟨v2, rfl, hR2, hb3⟩; have D3 := Lib.hid (D2.out.below hb3); have E3 := Lib.hid (E2.out.trans (hb3.mono E2.out.size)); have R2 := Lib.hid hR2; obtain ⟨a2, c2, rfl, _⟩ := hR2; have k3 := And.intro D3.out.c0 D3.out.c1)))
  clear k0 k1 k2 k3 D0 D1 D2 E0 E1 E2 G1 G2 N1 hb1 hb2 hb3 hg1 hn1 hz1 B1 T1
  go_wp2_with fail
  refine (TOR.out _ E3.out).mono ?_
  rintro e w5 ⟨rfl, hb5, ⟨f5, hg5, hn5⟩, hz5⟩
  have E5 := Lib.hid hb5
  have T5 := Lib.hid (D3.out.below hb5)
  have G5 := Lib.hid hg5
  have A5 := Lib.hid (ToG.gw hg5 (Nat.le_refl _) hz5)
  have HW2 : Hid (w.heap.size < w2.heap.size) := Lib.hid D3.out.lt
  have HP3 : Hid (w2.heap.size < w5.heap.size) := Lib.hid hz5
  clear hb5 hg5 hn5 hz5 D3
  obtain ⟨t0, t1⟩ := T5.out
  generalize hp3 : w2.heap.size = p3 at G5 A5 HW2 HP3 ⊢
  have HPE := Lib.hid hp3
  clear hp3
  go_wp2_with fail
  refine (totk_any x y _).mono ?_
  rintro e w6 ⟨rfl, hb6⟩
  have E6 := Lib.hid (E5.out.trans (hb6.mono E5.out.size))
  have T6 := Lib.hid (T5.out.below hb6)
  have G6 := Lib.hid (G5.out.below hb6)
  have A6 := Lib.hid (A5.out.below hb6)
  have HP6 : Hid (w5.heap.size ≤ w6.heap.size) := Lib.hid hb6.size
  clear hb6 t0 t1 E5 T5 G5 A5
  go_wp2_with fail
  refine (IMC.out _ _ (G6.out.rgs (Nat.le_refl _))).mono ?_
  rintro e w7 ⟨v4, rfl, hb7, hv4⟩
  have X : Hid (SS w w2 w7 x y (.slice (some ⟨p3, 0, none⟩) L.length L.length) v4 p3 w5.heap.size w6.heap.size w7.heap.size L.length M.length (fun i => L.getD i rgD) (fun i => M.getD i rgD)) := Lib.hid
    ⟨E6.out.trans (hb7.mono E6.out.size), E3.out, T6.out.below hb7, A6.out.below hb7, GW.of_got hv4, ⟨by rw [HPE.out]; exact HW2.out, by rw [HPE.out]; exact Nat.le_refl _, HP6.out, Nat.le_of_lt HP3.out⟩⟩
  clear hb7 hv4 E6 T6 G6 A6 HW2 HP3 HP6 HPE E3
  generalize w5.heap.size = hi3 at X
  generalize w6.heap.size = lo4 at X
  generalize w7.heap.size = hi4 at X
  obtain ⟨a4, c4, rfl⟩ := GW.shape X.out.g
  have EQ := Lib.hid (fun (W : World) (v : Value) (h : Rgs False W v M) (b : Below w2.heap.size w2 W) => eqrgs_any v _ M W h (R2.out.below b) hM HM8.out)
  go_wp2_with fail
  refine (EQ.out _ _ X.out.g.rgs X.out.b).mono ?_
  rintro e w8 ⟨rfl, hb8⟩
  have X8 := Lib.hid (X.out.below hb8)
  clear hb8 X
  go_wp2_with fail
  refine (TOR.out _ X8.out.bel).mono ?_
  rintro e w9 ⟨rfl, hb9, ⟨f9, hg9, hn9⟩, hz9⟩
  have X9 := Lib.hid (X8.out.below hb9)
  have G9 := Lib.hid (hg9.rgs (Nat.le_refl _))
  clear hb9 hg9 hn9 hz9 X8
  go_wp2_with fail
  refine (eqrgs_any _ _ L _ X9.out.a.rgs G9.out hL HL8.out).mono ?_
  rintro e w10 ⟨rfl, hb10⟩
  have X10 := Lib.hid (X9.out.below hb10)
  clear hb10 X9 G9
  have KL := Lib.hid (kAt_bd (fun i => L.getD i rgD) L.length HLi.out L.length (Nat.le_refl _))
  have KM := Lib.hid (kAt_bd (fun i => M.getD i rgD) M.length HMi.out M.length (Nat.le_refl _))
  have MKA := Lib.hid (mkgw_any _ _ _ _ _ _ X10.out.a hL HLi.out)
  obtain ⟨kl, hkl⟩ : ∃ k, kAt (fun i => L.getD i rgD) L.length = k := ⟨_, rfl⟩
  obtain ⟨km, hkm⟩ : ∃ k, kAt (fun i => M.getD i rgD) M.length = k := ⟨_, rfl⟩
  rw [hkl] at KL MKA
  rw [hkm] at KM
  have HKM := Lib.hid hkm
  clear hkl hkm
  have hkl0 : ¬ kl < 0 := by have := KL.out; omega
  have hkm0 : ¬ km < 0 := by have := KM.out; omega
  have hkmm : (km != km) = false := by simp
  go_wp2_with fail
  refine MKA.out.mono ?_
  rintro e w11 ⟨rfl, hg11, hs11⟩
  have X11 := Lib.hid (X10.out.markA hg11 hs11)
  clear hg11 hs11 MKA X10
  go_wp2_with fail
  refine (EQ.out _ _ X11.out.g.rgs X11.out.b).mono ?_
  rintro e w12 ⟨rfl, hb12⟩
  have X12 := Lib.hid (X11.out.below hb12)
  clear hb12 X11
  have MKG := Lib.hid (mkgw_any _ _ _ _ _ _ X12.out.g hM HMi.out)
  rw [HKM.out] at MKG
  go_wp2_with fail
  refine MKG.out.mono ?_
  rintro e w13 ⟨rfl, hg13, hs13⟩
  have X13 := Lib.hid (X12.out.markG hg13 hs13)
  clear hg13 hs13 MKG X12
  have HDC := Lib.hid (fun (W : World) (h : GW W lo4 hi4 (.slice a4 M.length c4) M.length (mkR (fun i => M.getD i rgD))) => hdgw_any _ _ _ _ (fun i => M.getD i rgD) W h hM HMi.out)
  rw [HKM.out] at HDC
  go_wp2_with fail
  refine (HDC.out _ X13.out.g).mono ?_
  rintro e w14 ⟨rfl, rfl⟩
  have D0 := Lib.hid (X13.out.t.below (Below.refl _ _).drew)
  have E0 := Lib.hid (X13.out.below (Below.refl _ _).drew)
  have k0 := And.intro D0.out.c0 D0.out.c1
  go_upto_region 24 with fail
  go_region_held3 (fun W => W.cell? ⟨w.heap.size, 0, none⟩ = some (.int .i64 x) ∧ W.cell? ⟨w.heap.size, 1, none⟩ = some (.int .i64 y)) (with_reducible first | assumption | exact k0 | exact k1 | exact k2 | exact k3)
    ((first
      | (go_at_call 22; (with_reducible refine (TOR.out w13.drew E0.out.bel).mono ?_); rintro e u1 ⟨rfl, hb1, ⟨f1, hg1, hn1⟩, hz1⟩; have E1 := Lib.hid (E0.out.below hb1); have G1 : Hid (ToG u1 w13.heap.size L.length f1 (fun i => L.getD i rgD) L.length) := Lib.hid hg1; have k1 := And.intro E1.out.t.c0 E1.out.t.c1)
      | (go_at_call 18; (with_reducible refine (totk_any x y u1).mono ?_); rintro e u2 ⟨rfl, hb2⟩; have E2 := Lib.hid (E1.out.below hb2); have G2 := Lib.hid (G1.out.below hb2); have k2 := And.intro E2.out.t.c0 E2.out.t.c1)
      | (go_at_call 23; (with_reducible refine (IMC.out u2 _ (G2.out.rgs (Nat.le_refl _))).mono ?_); rintro e w15 ⟨v5, rfl, hb3, hv5⟩; have E3 := Lib.hid (E2.out.below hb3); have R5 := Lib.hid (GotSv.rgs hv5); obtain ⟨a5, c5, rfl, _⟩ := GotSv.rgs hv5; have k3 := And.intro E3.out.t.c0 E3.out.t.c1)))
  clear k0 k1 k2 k3 D0 E0 E1 E2 G1 G2 hb1 hb2 hb3 hg1 hn1 hz1 hv5 X13
  go_wp2_with fail
  refine (EQ.out _ _ R5.out E3.out.b).mono ?_
  rintro e w16 ⟨rfl, hb16⟩
  have X16 := Lib.hid (E3.out.below hb16)
  clear hb16 E3 R5
  go_wp2_with fail
  refine (HDC.out _ X16.out.g).mono ?_
  rintro e w17 ⟨rfl, rfl⟩
  go_wp2_with fail
  go_ret
  exact ⟨rfl, X16.out.bel⟩

end Go.Proofs.Ytlhjhdlpejpooab
