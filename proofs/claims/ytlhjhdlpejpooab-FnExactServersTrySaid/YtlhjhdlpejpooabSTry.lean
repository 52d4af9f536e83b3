/- The model's l13Try at a valid register. -/
import Derived.Test.YtlhjhdlpejpooabSTickv
import Derived.Test.YtlhjhdlpejpooabTcs
import Derived.Test.YtlhjhdlpejpooabBsMath
import Derived.Deep.CutBlock
import Derived.Deep.RegionHeldLaw
namespace Go.Proofs.Ytlhjhdlpejpooab
open Go.RowKit
set_option linter.unusedVariables false
set_option linter.unusedSimpArgs false

/-- A register and a Bool come back, the register's slice not nil. -/
def GotRgN (w : World) (r : Reg × Bool) (e : Ending) (w' : World) : Prop := ∃ v', e = .returned (.tuple #[.agg #[.int .i64 r.1.1, v'], .bool r.2]) ∧ OwnTc w' w.heap.size v' r.1.2 ∧ Below w.heap.size w w' ∧ v'.ownBlock ≠ none
theorem CellsT.kept {W W' : World} {g o : Nat} {m : List Tic} {row : Option Nat} (h : CellsT W g o m) (hg : W.grownBy W' row) (hn : some g ≠ row) : CellsT W' g o m := fun q u hu => hg.cell (h q u hu) hn
theorem new_cells2 (w : World) (x y : Int) (T : TypeId) : CellsT (w.alloc (.cells #[.int .i64 x, .int .i64 y] T)) w.heap.size 0 [(x, y)] := fun q u hu => new_cells w x y T q u hu
theorem srcT_one {W : World} {g : Nat} {x y : Int} (h : CellsT W g 0 [(x, y)]) : SrcT W (.slice (some ⟨g, 0, none⟩) 1 1) [(x, y)] := .inr ⟨_, 1, rfl, fun _ => ⟨_, _, rfl, h⟩⟩
theorem app_below {W V V' : World} {v : Value} {l : List Tic} (hb : Below W.heap.size W V) (hO : OwnTc V W.heap.size v l) (hg : V.grownBy V' v.ownBlock) : Below W.heap.size W V' := hb.grown hg hb.size (fun j hj => (World.ownsRow.lt hO j hj).1)

/-- Where l13Try stands: TS, and the ticket's block. -/
structure TY (w W : World) (pb tb rb ob g c : Nat) (n0 : Int) (s : Value) (x y : Int) (l : List Tic) : Prop where
  s : TS w W pb rb ob g c n0 n0 s l
  t : RgV W tb x (.int .i64 y)
  tl : pb < tb ∧ tb < rb
theorem TY.below {w W W' : World} {pb tb rb ob g c : Nat} {n0 : Int} {s : Value} {x y : Int} {l : List Tic} (h : TY w W pb tb rb ob g c n0 s x y l) (hb : Below W.heap.size W W') : TY w W' pb tb rb ob g c n0 s x y l :=
  ⟨h.s.below hb, h.t.below hb, h.tl⟩

theorem own_some {w : World} {B n c g s : Nat} {aa : Option Addr} {l : List Tic} (h : OwnTc w B (.slice aa n c) l) (hg : (Value.slice aa n c).ownBlock = some g ∨ (Value.slice aa n c).ownBlock = some s) : ∃ g, aa = some ⟨g, 0, none⟩ := by
  obtain ⟨h0, ⟨h1, _⟩ | ⟨g, c, cur, he, _⟩⟩ := h
  · rw [h1] at hg; simp [Value.ownBlock] at hg
  · exact ⟨g, by injection he⟩
/-- .. ahead of the first append, its empty row in block g. -/
structure TV (w V : World) (pb tb rb g : Nat) (n0 : Int) (s : Value) (x y : Int) : Prop where
  bel : Below w.heap.size w V
  par : RgV V pb n0 s
  t : RgV V tb x (.int .i64 y)
  zer : RgV V rb 0 (.slice none 0 0)
  zf : Soft V rb
  own : OwnTc V w.heap.size (.slice (some ⟨g, 0, none⟩) 0 0) []
  ne : g ≠ pb ∧ g ≠ tb ∧ g ≠ rb
  ord : w.heap.size ≤ pb ∧ pb < tb ∧ tb < rb
theorem TV.below {w V V' : World} {pb tb rb g : Nat} {n0 : Int} {s : Value} {x y : Int} (h : TV w V pb tb rb g n0 s x y) (hb : Below V.heap.size V V') : TV w V' pb tb rb g n0 s x y :=
  ⟨h.bel.trans (hb.mono h.bel.size), h.par.below hb, h.t.below hb, h.zer.below hb, h.zf.below hb h.zer.lt, h.own.below hb, h.ne, h.ord⟩
theorem TV.late {w V W' : World} {pb tb rb g g' c' nn : Nat} {n0 : Int} {s : Value} {x y : Int} {l : List Tic} (h : TV w V pb tb rb g n0 s x y) (hnn : nn = l.length) (hg : V.grownBy W' (some g)) (hO : OwnTc W' w.heap.size (.slice (some ⟨g', 0, none⟩) nn c') l) (hn : g' = g ∨ g' = V.heap.size) (T : TypeId) :
    TY w (W'.alloc (.cells #[.int .i64 n0, .slice (some ⟨g', 0, none⟩) nn c'] T)) pb tb rb W'.heap.size g' c' n0 s x y l := by
  subst hnn
  obtain ⟨n1, n2, n3⟩ := h.ne
  obtain ⟨o1, o2, o3⟩ := h.ord
  have lz := h.zer.lt
  have hsz := hg.size
  have hgl : w.heap.size ≤ g ∧ g < V.heap.size := World.ownsRow.lt h.own g rfl
  have hgl' : w.heap.size ≤ g' ∧ g' < W'.heap.size := World.ownsRow.lt hO g' rfl
  have U : Below W'.heap.size W' (W'.alloc (.cells #[.int .i64 n0, .slice (some ⟨g', 0, none⟩) l.length c'] T)) := (Below.refl _ _).alloc (Nat.le_refl _) _
  have hb : Below w.heap.size w W' := h.bel.grown hg h.bel.size (fun j hj => by injection hj with hj; omega)
  have kp := h.par.kept hg (fun e => by injection e with e; omega)
  have kt := h.t.kept hg (fun e => by injection e with e; omega)
  have kz := h.zer.kept hg (fun e => by injection e with e; omega)
  have kf := h.zf.kept hg lz (fun e => by injection e with e; omega)
  exact ⟨⟨hb.trans (U.mono hb.size), kp.below U, kz.below U, kf.below U kz.lt, RgV.new W' n0 _ _, Soft.new W' _ _, hO.below U, ⟨by omega, by omega, by omega⟩, ⟨o1, by omega, by omega⟩⟩, kt.below U, ⟨o2, o3⟩⟩
theorem TV.early {w V W' : World} {pb tb rb ob g g' c' nn : Nat} {n0 : Int} {s z0 : Value} {z1 : Int} {x y : Int} {l : List Tic} (h : TV w V pb tb rb g n0 s x y) (k : RgV V ob z1 z0) (kf : Soft V ob) (hob : rb < ob ∧ g ≠ ob) (hnn : nn = l.length) (hg : V.grownBy W' (some g)) (hO : OwnTc W' w.heap.size (.slice (some ⟨g', 0, none⟩) nn c') l) (hn : g' = g ∨ g' = V.heap.size) :
    TY w ((W'.setCell ⟨ob, 0, none⟩ (.int .i64 n0)).setCell ⟨ob, 1, none⟩ (.slice (some ⟨g', 0, none⟩) nn c')) pb tb rb ob g' c' n0 s x y l := by
  subst hnn
  obtain ⟨n1, n2, n3⟩ := h.ne
  obtain ⟨o1, o2, o3⟩ := h.ord
  obtain ⟨b1, b2⟩ := hob
  have lz := h.zer.lt
  have lk := k.lt
  have hgl : w.heap.size ≤ g ∧ g < V.heap.size := World.ownsRow.lt h.own g rfl
  have hb : Below w.heap.size w W' := h.bel.grown hg h.bel.size (fun j hj => by injection hj with hj; omega)
  have kp := h.par.kept hg (fun e => by injection e with e; omega)
  have kt := h.t.kept hg (fun e => by injection e with e; omega)
  have kz := h.zer.kept hg (fun e => by injection e with e; omega)
  have kk := k.kept hg (fun e => by injection e with e; omega)
  have hn3 : g' ≠ ob := by omega
  exact ⟨⟨(hb.setCell (show w.heap.size ≤ ob by omega) _).setCell (show w.heap.size ≤ ob by omega) _, (kp.far (by omega)).far (by omega), (kz.far (by omega)).far (by omega), ((h.zf.kept hg lz (fun e => by injection e with e; omega)).set _ _).set _ _, (kk.set0 n0).set1 _, ((kf.kept hg lk (fun e => by injection e with e; omega)).set _ _).set _ _, OwnTc.far (OwnTc.far hO (fun e => hn3 (Option.some.inj e))) (fun e => hn3 (Option.some.inj e)), ⟨by omega, by omega, hn3⟩, ⟨o1, by omega, by omega⟩⟩, (kt.far (by omega)).far (by omega), ⟨o2, o3⟩⟩

set_option maxRecDepth 100000 in
set_option maxHeartbeats 8000000 in
theorem stry_any (n0 x y : Int) (v : Value) (l : List Tic) (w : World) (hs : Tcs w v l) (hnn : v.ownBlock ≠ none) (hr : regok (n0, l)) : Calls Try.prog 51 #[.agg #[.int .i64 n0, v], .agg #[.int .i64 x, .int .i64 y]] w (GotRgN w ((n0, (rtry (n0, l) (x, y)).1), (rtry (n0, l) (x, y)).2)) := by
  have HT := Lib.hid hs
  obtain ⟨_, _, a, c, rfl, hlc, had⟩ := hs
  have HNN : Hid (a ≠ none) := Lib.hid fun e => hnn (by rw [e]; rfl)
  clear hnn
  have HAD := Lib.hid had
  clear had
  have hl8 : l.length ≤ 8 := hr.2.1
  have hn0 : 0 ≤ n0 := hr.1.1
  have hn9 : n0 ≤ 999 := hr.1.2
  have HRK := Lib.hid hr
  clear hr
  have hw1 : IntKind.i64.wrap (n0 - 10) = n0 - 10 := IntWalk.i64_in _ (by omega)
  obtain ⟨W0, hW0⟩ : ∃ W0, W0 = ((w.alloc (.cells #[.int .i64 n0, .slice a l.length c] 28)).alloc (.cells #[.int .i64 x, .int .i64 y] 38)).alloc (.cells #[.int .i64 0, .slice none 0 0] 28) := ⟨_, rfl⟩
  have e1 : (w.alloc (.cells #[.int .i64 n0, .slice a l.length c] 28)).heap.size = w.heap.size + 1 := by simp
  have e2 : ((w.alloc (.cells #[.int .i64 n0, .slice a l.length c] 28)).alloc (.cells #[.int .i64 x, .int .i64 y] 38)).heap.size = w.heap.size + 1 + 1 := by simp
  have s0 : W0.heap.size = w.heap.size + 1 + 1 + 1 := by rw [hW0]; simp
  have U0 : Hid (Below w.heap.size w W0) := Lib.hid (by rw [hW0]; exact (((Below.refl _ _).alloc (Nat.le_refl _) _).alloc (by simp) _).alloc (by simp; omega) _)
  have P0 : Hid (RgV W0 w.heap.size n0 (.slice a l.length c)) := Lib.hid (by rw [hW0]; exact ((RgV.new w n0 _ _).below ((Below.refl _ _).alloc (Nat.le_refl _) _)).below ((Below.refl _ _).alloc (Nat.le_refl _) _))
  have T0 : Hid (RgV W0 (w.heap.size + 1) x (.int .i64 y)) := Lib.hid (by rw [hW0, ← e1]; exact (RgV.new _ x _ _).below ((Below.refl _ _).alloc (Nat.le_refl _) _))
  have Z0 : Hid (RgV W0 (w.heap.size + 1 + 1) 0 (.slice none 0 0)) := Lib.hid (by rw [hW0, ← e2]; exact RgV.new _ 0 _ _)
  have F0 : Hid (Soft W0 (w.heap.size + 1 + 1)) := Lib.hid (by rw [hW0, ← e2]; exact Soft.new _ _ _)
  clear e1 e2
  go_enter Try.func51, Try.ntmps51
  go_upto_region 1 with fail
  rw [← hW0]
  clear hW0
  have hs0 := Lib.hid s0
  obtain ⟨pb, hpb⟩ : ∃ pb, pb = w.heap.size := ⟨_, rfl⟩
  obtain ⟨tb, htb⟩ : ∃ tb, tb = w.heap.size + 1 := ⟨_, rfl⟩
  obtain ⟨rb, hrb⟩ : ∃ rb, rb = w.heap.size + 1 + 1 := ⟨_, rfl⟩
  rw [← hrb] at Z0 F0 ⊢
  rw [← htb] at T0 ⊢
  have V0 : Hid (TV w (W0.alloc (.cells #[] 38)) w.heap.size tb rb W0.heap.size n0 (.slice a l.length c) x y) := Lib.hid (by
    have U : Below W0.heap.size W0 (W0.alloc (.cells #[] 38)) := (Below.refl _ _).alloc (Nat.le_refl _) _
    exact ⟨U0.out.trans (U.mono U0.out.size), P0.out.below U, T0.out.below U, Z0.out.below U, F0.out.below U Z0.out.lt, own_new _ 2 w.heap.size W0 (by omega), ⟨by omega, by omega, by omega⟩, ⟨by omega, by omega, by omega⟩⟩)
  have VX : Hid (TV w (((W0.alloc (.cells #[.int .i64 0, .slice none 0 0] 28)).alloc (.cells #[] 38))) w.heap.size tb rb (W0.heap.size + 1) n0 (.slice a l.length c) x y) := Lib.hid (by
    have U1 : Below W0.heap.size W0 (W0.alloc (.cells #[.int .i64 0, .slice none 0 0] 28)) := (Below.refl _ _).alloc (Nat.le_refl _) _
    have e1 : (W0.alloc (.cells #[.int .i64 0, .slice none 0 0] 28)).heap.size = W0.heap.size + 1 := by simp
    have U : Below W0.heap.size W0 ((W0.alloc (.cells #[.int .i64 0, .slice none 0 0] 28)).alloc (.cells #[] 38)) := U1.alloc (by simp) _
    exact ⟨U0.out.trans (U.mono U0.out.size), P0.out.below U, T0.out.below U, Z0.out.below U, F0.out.below U Z0.out.lt, by rw [← e1]; exact own_new _ 2 w.heap.size _ (by omega), ⟨by omega, by omega, by omega⟩, ⟨by omega, by omega, by omega⟩⟩)
  have HTB := Lib.hid htb
  have HRB := Lib.hid hrb
  clear s0 hpb htb hrb
  go_cut [6] (fun obv wx => ∃ ob g c', obv = .pointer (some ⟨ob, 0, none⟩) ∧ Hid (TY w wx w.heap.size tb rb ob g c' n0 (.slice a l.length c) x y l))
  case first =>
    have VA := Lib.hid (V0.out.below (Below.refl _ _).drew)
    have VB := Lib.hid ((V0.out.below ((Below.refl _ _).alloc (Nat.le_refl _) (.cells #[.int .i64 0, .slice none 0 0] 28))).below (Below.refl _ _).drew)
    have VC := Lib.hid (VX.out.below (Below.refl _ _).drew)
    have hsrc : ∀ W : World, Below W0.heap.size W0 W → SrcT W (.slice a l.length c) l := fun W hb => SrcT.of ((HT.out.1.below U0.out).below hb) HT.out.2.1
    have HSR := Lib.hid hsrc
    clear hsrc
    have e1 : (W0.alloc (.cells #[] 38)).heap.size = W0.heap.size + 1 := by simp
    have KB : Hid (RgV ((W0.alloc (.cells #[] 38)).alloc (.cells #[.int .i64 0, .slice none 0 0] 28)).drew (W0.heap.size + 1) 0 (.slice none 0 0)) := Lib.hid (by rw [← e1]; exact (RgV.new _ 0 _ _).below (Below.refl _ _).drew)
    have FB : Hid (Soft ((W0.alloc (.cells #[] 38)).alloc (.cells #[.int .i64 0, .slice none 0 0] 28)).drew (W0.heap.size + 1)) := Lib.hid (by rw [← e1]; exact Soft.new _ _ _)
    have KC : Hid (RgV ((W0.alloc (.cells #[.int .i64 0, .slice none 0 0] 28)).alloc (.cells #[] 38)).drew W0.heap.size 0 (.slice none 0 0)) := Lib.hid (((RgV.new W0 0 _ _).below ((Below.refl _ _).alloc (Nat.le_refl _) _)).below (Below.refl _ _).drew)
    have FC : Hid (Soft ((W0.alloc (.cells #[.int .i64 0, .slice none 0 0] 28)).alloc (.cells #[] 38)).drew W0.heap.size) := Lib.hid ((Soft.new W0 _ _).below (((Below.refl _ _).alloc (Nat.le_refl _) _).drew) (by simp))
    clear e1
    have hrbs := Lib.hid (show rb < W0.heap.size from Z0.out.lt)
    obtain ⟨p0, p1⟩ := P0.out
    obtain ⟨q0, q1⟩ := V0.out.par
    obtain ⟨q2, q3⟩ := VX.out.par
    obtain ⟨q4, q5⟩ := V0.out.below ((Below.refl _ _).alloc (Nat.le_refl _) (.cells #[.int .i64 0, .slice none 0 0] 28)) |>.par
    obtain ⟨q6, q7⟩ := P0.out.below ((Below.refl _ _).alloc (Nat.le_refl _) (.cells #[.int .i64 0, .slice none 0 0] 28))
    go_region_law ((first
      | (refine step_append_tc _ (by rfl) _ _ (by rfl) w.heap.size _ [] l (by rfl) VA.out.own _ (by rfl) (HSR.out _ ((Below.refl _ _).alloc (Nat.le_refl _) _).drew) (by simp; omega) VA.out.bel.size ?_; intro aa nn cc w8 hO8 hnn hg8 hgg8 hnil; have kp := VA.out.par.kept hg8 (fun e => VA.out.ne.1 (Option.some.inj e).symm); have u0 := kp.c0; have u1 := kp.c1; have u2 := (kp.below ((Below.refl _ _).alloc (Nat.le_refl _) (.cells #[.int .i64 0, .slice none 0 0] 28))).c0)
      | (refine step_append_tc _ (by rfl) _ _ (by rfl) w.heap.size _ [] l (by rfl) VB.out.own _ (by rfl) (HSR.out _ (((Below.refl _ _).alloc (Nat.le_refl _) _).alloc (by simp) _).drew) (by simp; omega) VB.out.bel.size ?_; intro aa nn cc w8 hO8 hnn hg8 hgg8 hnil; have kp := VB.out.par.kept hg8 (fun e => VB.out.ne.1 (Option.some.inj e).symm); have u0 := kp.c0; have u1 := kp.c1; have u2 := (kp.below ((Below.refl _ _).alloc (Nat.le_refl _) (.cells #[.int .i64 0, .slice none 0 0] 28))).c0; have ko := KB.out.kept hg8 (fun e => absurd (Option.some.inj e) (Nat.succ_ne_self _)); have o0 := ko.c0; have o1 := ko.c1; have fk := FB.out.kept hg8 KB.out.lt (fun e => absurd (Option.some.inj e) (Nat.succ_ne_self _)); have fo0 := fk 0; have fo1 := fk 1)
      | (refine step_append_tc _ (by rfl) _ _ (by rfl) w.heap.size _ [] l (by rfl) VC.out.own _ (by rfl) (HSR.out _ (((Below.refl _ _).alloc (Nat.le_refl _) _).alloc (by simp) _).drew) (by simp; omega) VC.out.bel.size ?_; intro aa nn cc w8 hO8 hnn hg8 hgg8 hnil; have kp := VC.out.par.kept hg8 (fun e => VC.out.ne.1 (Option.some.inj e).symm); have u0 := kp.c0; have u1 := kp.c1; have u2 := (kp.below ((Below.refl _ _).alloc (Nat.le_refl _) (.cells #[.int .i64 0, .slice none 0 0] 28))).c0; have ko := KC.out.kept hg8 (fun e => absurd (Option.some.inj e) (Nat.ne_of_lt (Nat.lt_succ_self _))); have o0 := ko.c0; have o1 := ko.c1; have fk := FC.out.kept hg8 KC.out.lt (fun e => absurd (Option.some.inj e) (Nat.ne_of_lt (Nat.lt_succ_self _))); have fo0 := fk 0; have fo1 := fk 1)))
    all_goals
      obtain ⟨g8, rfl⟩ := own_some hO8 hgg8
      have hn8 : Hid (nn = l.length) := Lib.hid (by simpa using hnn.out)
      go_wp2_with fail
      go_meet
      first
        | exact ⟨_, _, _, rfl, Lib.hid (VA.out.late hn8.out hg8 hO8 (hgg8.imp (fun h => Option.some.inj h) (fun h => Option.some.inj h)) _)⟩
        | exact ⟨_, _, _, rfl, Lib.hid (VB.out.early KB.out FB.out ⟨by have := hrbs.out; omega, by omega⟩ hn8.out hg8 hO8 (hgg8.imp (fun h => Option.some.inj h) (fun h => Option.some.inj h)))⟩
        | exact ⟨_, _, _, rfl, Lib.hid (VC.out.early KC.out FC.out ⟨hrbs.out, by omega⟩ hn8.out hg8 hO8 (hgg8.imp (fun h => Option.some.inj h) (fun h => Option.some.inj h)))⟩
  case rest =>
    obtain ⟨ob, g0, c0, rfl, HY⟩ := hcut
    clear P0 T0 Z0 F0 V0 VX U0 hs0
    obtain ⟨p0, p1⟩ := HY.out.s.par
    obtain ⟨t0, t1⟩ := HY.out.t
    have C2 : Hid (∀ W : World, Calls Try.prog 39 #[.int .i64 y, .int .i64 (n0 - 10), .int .i64 n0] W fun e w' => e = .returned (.bool (decide (trec n0 (x, y)))) ∧ W = w') := Lib.hid fun W => l6In_any y (n0 - 10) n0 W
    by_cases k1 : trec n0 (x, y)
    · by_cases k2 : 8 ≤ l.length
      · have HR := Lib.hid (rtry_no (r := (n0, l)) (t := (x, y)) (.inr (.inl k2)))
        have hd : decide ((8 : Int) ≤ (l.length : Int)) = true := decide_eq_true (by omega)
        have hd2 : decide (8 ≤ l.length) = true := decide_eq_true k2
        rw [decide_eq_true k1] at C2
        clear k1
        obtain ⟨z0, z1⟩ := HY.out.s.zer
        have f0 := HY.out.s.zf 0
        have f1 := HY.out.s.zf 1
        obtain ⟨o0, o1⟩ := HY.out.s.out
        have KE := Lib.hid (reg_end (m := n0) HY.out.s.bel HY.out.s.zer HY.out.s.own (fun e => HY.out.s.ne.2.1 (Option.some.inj e)) (by have := HY.out.s.ord; omega))
        go_wp2_with (go_at_call 39; (with_reducible refine (C2.out _).mono ?_); rintro e w2 ⟨rfl, rfl⟩)
        generalize (wc.setCell ⟨rb, 0, none⟩ (.int .i64 n0)).setCell ⟨rb, 1, none⟩ (.slice (some ⟨g0, 0, none⟩) l.length c0) = WF at KE ⊢
        obtain ⟨k0, k1⟩ := KE.out.1
        refine bodyPost_ret (v := .tuple #[.agg #[.int .i64 n0, .slice (some ⟨g0, 0, none⟩) l.length c0], .bool false]) ?hr rfl ?_
        case hr => rw [results_cell_tmp rfl]; go_simp
        exact ⟨_, by rw [HR.out], by rw [HR.out]; exact KE.out.2.2, KE.out.2.1, by simp [Value.ownBlock]⟩
      · have hd : decide ((8 : Int) ≤ (l.length : Int)) = false := decide_eq_false (by omega)
        have hd2 : decide (8 ≤ l.length) = false := decide_eq_false k2
        rw [decide_eq_true k1] at C2
        have K1 := Lib.hid k1
        clear k1
        go_upto_block 0 with (go_at_call 39; (with_reducible refine (C2.out _).mono ?_); rintro e w2 ⟨rfl, rfl⟩)
        clear p0 p1 t0 t1
        go_cut [7] (fun kv wx => ∃ k : Nat, k ≤ l.length ∧ kv = .int .i64 (k : Int) ∧ Hid (∀ z ∈ l.take k, TL z (x, y)) ∧ Hid (k < l.length → ¬ TL (l.getD k (0, 0)) (x, y)) ∧ Hid (TY w wx w.heap.size tb rb ob g0 c0 n0 (.slice a l.length c) x y l))
        case first =>
          go_wp2_with fail
          go_loopw [7] (fun kv wr => ∃ k : Nat, k ≤ l.length ∧ kv = .int .i64 (k : Int) ∧ Hid (∀ z ∈ l.take k, TL z (x, y)) ∧ Hid (TY w wr w.heap.size tb rb ob g0 c0 n0 (.slice a l.length c) x y l)) (fun kv _ => l.length - (intOf kv).toNat)
          case atStart => exact ⟨0, Nat.zero_le _, rfl, Lib.hid (by simp), HY⟩
          case round =>
            obtain ⟨k, hk, rfl, HS, HW⟩ := hrel
            have p0 := Up.cell HW.out.s.par.c0
            have p1 := Up.cell HW.out.s.par.c1
            have t0 := Up.cell HW.out.t.c0
            have t1 := Up.cell HW.out.t.c1
            by_cases hlt : k < l.length
            · have hlt' : (k : Int) < (l.length : Int) := by omega
              have hdl : decide ((k : Int) < (l.length : Int)) = true := decide_eq_true hlt'
              have hdk : decide (k < l.length) = true := decide_eq_true hlt
              obtain ⟨g, o, rfl, hc⟩ := tics_at HT.out.1 (show l ≠ [] by rintro rfl; simp at hlt)
              obtain ⟨d0, d1⟩ := hc k hlt
              have hg := World.block_lt_of_cell? w _ d0
              have e0 := Up.cell ((HW.out.s.bel.cell (p := ⟨g, o + k * 2, none⟩) hg).trans d0)
              have e1 := Up.cell ((HW.out.s.bel.cell (p := ⟨g, o + k * 2 + 1, none⟩) hg).trans d1)
              have HTK := Lib.hid (takeT l k hlt)
              clear d0 d1 hc hg
              obtain ⟨z, hz⟩ : ∃ z, z = l.getD k (0, 0) := ⟨_, rfl⟩
              have HZ := Lib.hid hz
              rw [← hz] at e0 e1 HTK
              clear hz
              obtain ⟨zx, zy⟩ := z
              by_cases hz : TL (zx, zy) (x, y)
              · have D3 : Hid (∀ m : Up wr, Calls Try.prog 68 #[.agg #[.int .i64 zx, .int .i64 zy], .agg #[.int .i64 x, .int .i64 y]] m.w fun e w' => e = .returned (.bool true) ∧ ∃ m' : Up wr, w' = m'.w) := Lib.hid (up_call fun W _ => by have h := sless_any (zx, zy) (x, y) W; rw [decide_eq_true hz] at h; exact h)
                have HS1 : Hid (∀ z ∈ l.take (k + 1), TL z (x, y)) := Lib.hid (by
                  rw [HTK.out.1]
                  intro q hq
                  rcases List.mem_append.1 hq with hq | hq
                  · exact HS.out q hq
                  · rw [List.mem_singleton.1 hq]; exact hz)
                clear hz
                go_wp2_with fail
                refine up_region wr (Below.refl _ _) (by kernel_rfl) (by kernel_rfl) ?_
                repeat (go_big_quiet_step ((go_at_call 68; exact D3.out _)))
                refine wpQuiet_nil ?_
                rintro W2 ⟨⟨_, hb2⟩, rfl⟩
                have HW2 := Lib.hid (HW.out.below hb2)
                go_wp2_with fail
                go_roundw
                case rel => exact ⟨k + 1, by omega, by go_num, HS1, HW2⟩
                case measure => simp [intOf]; omega
              · have D3 : Hid (∀ m : Up wr, Calls Try.prog 68 #[.agg #[.int .i64 zx, .int .i64 zy], .agg #[.int .i64 x, .int .i64 y]] m.w fun e w' => e = .returned (.bool false) ∧ ∃ m' : Up wr, w' = m'.w) := Lib.hid (up_call fun W _ => by have h := sless_any (zx, zy) (x, y) W; rw [decide_eq_false hz] at h; exact h)
                have HNL := Lib.hid (fun (_ : k < l.length) => (by rw [← HZ.out]; exact hz : ¬ TL (l.getD k (0, 0)) (x, y)))
                clear hz
                go_wp2_with fail
                refine up_region wr (Below.refl _ _) (by kernel_rfl) (by kernel_rfl) ?_
                repeat (go_big_quiet_step ((go_at_call 68; exact D3.out _)))
                refine wpQuiet_nil ?_
                rintro W2 ⟨⟨_, hb2⟩, rfl⟩
                have HW2 := Lib.hid (HW.out.below hb2)
                go_wp2_with fail
                go_meet
                exact ⟨k, hk, rfl, HS, HNL, HW2⟩
            · have hnl : ¬ (k : Int) < (l.length : Int) := by omega
              have hdl : decide ((k : Int) < (l.length : Int)) = false := decide_eq_false hnl
              have hdk : decide (k < l.length) = false := decide_eq_false hlt
              have HNL := Lib.hid (fun (h : k < l.length) => (absurd h hlt : ¬ TL (l.getD k (0, 0)) (x, y)))
              go_wp2_with fail
              refine up_region wr (Below.refl _ _) (by kernel_rfl) (by kernel_rfl) ?_
              repeat (go_big_quiet_step (fail))
              refine wpQuiet_nil ?_
              rintro W2 ⟨⟨_, hb2⟩, rfl⟩
              have HW2 := Lib.hid (HW.out.below hb2)
              go_wp2_with fail
              go_meet
              exact ⟨k, hk, rfl, HS, HNL, HW2⟩
        case rest =>
          obtain ⟨k, hk, rfl, HS, HNL, HW⟩ := hcut
          clear HY
          go_upto_region 7 with fail
          go_cut [60] (fun qv wx => ∃ q : Bool, qv = .bool q ∧ (q = true → (x, y) ∈ l) ∧ (q = false → k < l.length → l.getD k (0, 0) ≠ (x, y)) ∧ Hid (TY w wx w.heap.size tb rb ob g0 c0 n0 (.slice a l.length c) x y l))
          case first =>
            obtain ⟨p0, p1⟩ := HW.out.s.par
            obtain ⟨t0, t1⟩ := HW.out.t
            by_cases hlt : k < l.length
            · have hlt' : (k : Int) < (l.length : Int) := by omega
              have hdl : decide ((k : Int) < (l.length : Int)) = true := decide_eq_true hlt'
              have hdk : decide (k < l.length) = true := decide_eq_true hlt
              obtain ⟨g, o, rfl, hc⟩ := tics_at HT.out.1 (show l ≠ [] by rintro rfl; simp at hlt)
              obtain ⟨d0, d1⟩ := hc k hlt
              have hg := World.block_lt_of_cell? w _ d0
              have e0 := (HW.out.s.bel.cell (p := ⟨g, o + k * 2, none⟩) hg).trans d0
              have e1 := (HW.out.s.bel.cell (p := ⟨g, o + k * 2 + 1, none⟩) hg).trans d1
              have HTK := Lib.hid (takeT l k hlt)
              clear d0 d1 hc hg
              obtain ⟨z, hz⟩ : ∃ z, z = l.getD k (0, 0) := ⟨_, rfl⟩
              have HZ := Lib.hid hz
              rw [← hz] at e0 e1 HTK
              clear hz
              obtain ⟨zx, zy⟩ := z
              obtain ⟨b1, hb1⟩ : ∃ b, (zx == x) = b := ⟨_, rfl⟩
              obtain ⟨b2, hb2⟩ : ∃ b, (zy == y) = b := ⟨_, rfl⟩
              have HB := Lib.hid (And.intro hb1 hb2)
              cases b1 <;> cases b2
              all_goals
                go_wp2_with fail
                go_quiet (fail)
                have HQ := Lib.hid (HW.out.below (below_drewN' (Below.refl _ _) nq))
                go_wp2_with fail
                go_meet
                refine ⟨_, rfl, fun h => ?_, fun h h1 h2 => ?_, HQ⟩
              all_goals first
                | cases h; done
                | (have h1 := HB.out.1; have h2 := HB.out.2; rw [beq_iff_eq] at h1 h2; subst h1; subst h2; exact HTK.out.2)
                | (rw [← HZ.out] at h2; simp only [Prod.mk.injEq] at h2; obtain ⟨rfl, rfl⟩ := h2; have h3 := HB.out.1; have h4 := HB.out.2; simp at h3 h4)
            · have hnl : ¬ (k : Int) < (l.length : Int) := by omega
              have hdl : decide ((k : Int) < (l.length : Int)) = false := decide_eq_false hnl
              have hdk : decide (k < l.length) = false := decide_eq_false hlt
              go_wp2_with fail
              go_quiet (fail)
              have HQ := Lib.hid (HW.out.below (below_drewN' (Below.refl _ _) nq))
              go_wp2_with fail
              go_meet
              exact ⟨_, rfl, fun h => by simp at h, fun _ h1 => absurd h1 hlt, HQ⟩
          case rest =>
            obtain ⟨q, rfl, hq1, hq2, HQ⟩ := hcut
            cases q
            · have HI := ins_at HRK.out.2.2.2 hk HS.out HNL.out (hq2 rfl)
              have HR := Lib.hid ((rtry_yes (r := (n0, l)) (t := (x, y)) (by
                rintro (h | h | h)
                · exact h K1.out
                · exact k2 h
                · exact HI.2 h)).trans (by rw [HI.1]))
              clear hq1 hq2 HI HS HNL HW
              have AA : Hid (Below wc.heap.size wc (wc.alloc (.cells #[] 38)).drew) := Lib.hid ((Below.refl _ _).alloc (Nat.le_refl _) _).drew
              have AB : Hid (Below wc.heap.size wc ((wc.alloc (.cells #[] 38)).alloc (.cells #[.int .i64 x, .int .i64 y] 38)).drew) := Lib.hid (((Below.refl _ _).alloc (Nat.le_refl _) _).alloc (by simp) _).drew
              have BA : Hid (Below wc.heap.size wc ((wc.alloc (.cells #[.int .i64 x, .int .i64 y] 38)).alloc (.cells #[] 38)).drew) := Lib.hid (((Below.refl _ _).alloc (Nat.le_refl _) _).alloc (by simp) _).drew
              have e1 : (wc.alloc (.cells #[.int .i64 x, .int .i64 y] 38)).heap.size = wc.heap.size + 1 := by simp
              have OA : Hid (OwnTc (wc.alloc (.cells #[] 38)).drew wc.heap.size (.slice (some ⟨wc.heap.size, 0, none⟩) 0 0) []) := Lib.hid (OwnTc.below (own_new _ 2 wc.heap.size wc (Nat.le_refl _)) (Below.refl _ _).drew)
              have OAB : Hid (OwnTc ((wc.alloc (.cells #[] 38)).alloc (.cells #[.int .i64 x, .int .i64 y] 38)).drew wc.heap.size (.slice (some ⟨wc.heap.size, 0, none⟩) 0 0) []) := Lib.hid (OwnTc.below (own_new _ 2 wc.heap.size wc (Nat.le_refl _)) ((Below.refl _ _).alloc (Nat.le_refl _) _).drew)
              have OBA : Hid (OwnTc ((wc.alloc (.cells #[.int .i64 x, .int .i64 y] 38)).alloc (.cells #[] 38)).drew wc.heap.size (.slice (some ⟨wc.heap.size + 1, 0, none⟩) 0 0) []) := Lib.hid (by rw [← e1]; exact OwnTc.below (own_new _ 2 wc.heap.size _ (by omega)) (Below.refl _ _).drew)
              clear e1
              cases a with
              | none =>
                exact absurd rfl HNN.out
              | some ad =>
                obtain ⟨g, o, rfl⟩ := HAD.out ad rfl
                have HC : Hid (CellsT wc g o l) := Lib.hid ((Tics.cells HT.out.1).below HQ.out.s.bel)
                have hkc : (k : Int) ≤ (c : Int) := by omega
                have hkl : (k : Int) ≤ (l.length : Int) := by omega
                have hlc' : (l.length : Int) ≤ (c : Int) := by omega
                have HSR1 : Hid (∀ X : World, Below wc.heap.size wc X → SrcT X (.slice (some ⟨g, o, none⟩) k c) (l.take k)) := Lib.hid fun X bX => SrcT.take (HC.out.below bX) k hk
                have HSR3 : Hid (∀ X : World, Below wc.heap.size wc X → SrcT X (.slice (if c = k then some ⟨g, o, none⟩ else some ⟨g, o + k * 2, none⟩) (l.length - k) (c - k)) (l.drop k)) := Lib.hid fun X bX => SrcT.drop (HC.out.below bX) k hk hlc rfl
                obtain ⟨p0, p1⟩ := HQ.out.s.par
                obtain ⟨t0, t1⟩ := HQ.out.t
                obtain ⟨q0, q1⟩ := (HQ.out.below ((Below.refl _ _).alloc (Nat.le_refl _) (.cells #[] 38))).s.par
                obtain ⟨q2, q3⟩ := (HQ.out.below ((Below.refl _ _).alloc (Nat.le_refl _) (.cells #[] 38))).t
                obtain ⟨q4, q5⟩ := (HQ.out.below ((Below.refl _ _).alloc (Nat.le_refl _) (.cells #[.int .i64 x, .int .i64 y] 38))).s.par
                obtain ⟨q6, q7⟩ := (HQ.out.below ((Below.refl _ _).alloc (Nat.le_refl _) (.cells #[.int .i64 x, .int .i64 y] 38))).t
                obtain ⟨q8, q9⟩ := (HQ.out.below (((Below.refl _ _).alloc (Nat.le_refl _) (.cells #[] 38)).alloc (by simp) (.cells #[.int .i64 x, .int .i64 y] 38))).s.par
                obtain ⟨r0, r1⟩ := (HQ.out.below (((Below.refl _ _).alloc (Nat.le_refl _) (.cells #[] 38)).alloc (by simp) (.cells #[.int .i64 x, .int .i64 y] 38))).t
                obtain ⟨r2, r3⟩ := (HQ.out.below (((Below.refl _ _).alloc (Nat.le_refl _) (.cells #[.int .i64 x, .int .i64 y] 38)).alloc (by simp) (.cells #[] 38))).s.par
                go_upto_region 9 with fail
                go_cut [] (fun wx => ∃ g10 n3 c3 : Nat, Hid (g10 ≠ rb) ∧ Hid (RgV wx ob n0 (.slice (some ⟨g10, 0, none⟩) n3 c3)) ∧ Hid (RgV wx rb 0 (.slice none 0 0)) ∧ Hid (Soft wx rb) ∧ Hid (OwnTc wx w.heap.size (.slice (some ⟨g10, 0, none⟩) n3 c3) (([] ++ l.take k ++ [(x, y)]) ++ l.drop k)) ∧ Hid (Below w.heap.size w wx))
                case first =>
                  have YD := HQ.out.below (Below.refl _ _).drew
                  have kD := And.intro YD.s.par.c1 (And.intro YD.t.c0 YD.t.c1)
                  have YA := HQ.out.below AA.out
                  have kA := And.intro YA.s.par.c1 (And.intro YA.t.c0 YA.t.c1)
                  have YAB := HQ.out.below AB.out
                  have kAB := And.intro YAB.s.par.c1 (And.intro YAB.t.c0 YAB.t.c1)
                  have YBA := HQ.out.below BA.out
                  have kBA := And.intro YBA.s.par.c1 (And.intro YBA.t.c0 YBA.t.c1)
                  have YB := HQ.out.below ((Below.refl _ _).alloc (Nat.le_refl _) (.cells #[.int .i64 x, .int .i64 y] 38)).drew
                  have kB := And.intro YB.s.par.c1 (And.intro YB.t.c0 YB.t.c1)
                  clear YD YA YAB YBA YB
                  go_region_held_law (fun w' => w'.cell? ⟨w.heap.size, 1, none⟩ = some (.slice (some ⟨g, o, none⟩) l.length c) ∧ w'.cell? ⟨tb, 0, none⟩ = some (.int .i64 x) ∧ w'.cell? ⟨tb, 1, none⟩ = some (.int .i64 y)) (with_reducible first | assumption | exact kD | exact kA | exact kAB | exact kBA | exact kB)
                    ((first
                    | ((with_reducible refine step_append_tc ((wc.alloc (.cells #[] 38)).drew) ?_ (.tmp 62) (.tmp 66) ?_ wc.heap.size _ ([]) (l.take k) ?_ (OA.out) _ ?_ (HSR1.out _ AA.out) ?_ (AA.out.size) ?_); rfl; rfl; rfl; rfl; (simp; omega); intro aa nn cc w8 hO8 hnn hg8 hgg8 hnil; have b8 := Lib.hid (app_below AA.out OA.out hg8); have y8 := HQ.out.below b8.out; have k8 := And.intro y8.s.par.c1 (And.intro y8.t.c0 y8.t.c1); have y8a := y8.below ((Below.refl _ _).alloc (Nat.le_refl _) (.cells #[.int .i64 x, .int .i64 y] 38)); have k8a := And.intro y8a.s.par.c1 (And.intro y8a.t.c0 y8a.t.c1))
                    | ((with_reducible refine step_append_tc (((wc.alloc (.cells #[] 38)).alloc (.cells #[.int .i64 x, .int .i64 y] 38)).drew) ?_ (.tmp 62) (.tmp 66) ?_ wc.heap.size _ ([]) (l.take k) ?_ (OAB.out) _ ?_ (HSR1.out _ AB.out) ?_ (AB.out.size) ?_); rfl; rfl; rfl; rfl; (simp; omega); intro aa nn cc w8 hO8 hnn hg8 hgg8 hnil; have b8 := Lib.hid (app_below AB.out OAB.out hg8); have y8 := HQ.out.below b8.out; have k8 := And.intro y8.s.par.c1 (And.intro y8.t.c0 y8.t.c1); have y8a := y8.below ((Below.refl _ _).alloc (Nat.le_refl _) (.cells #[.int .i64 x, .int .i64 y] 38)); have k8a := And.intro y8a.s.par.c1 (And.intro y8a.t.c0 y8a.t.c1); have bt : Hid (CellsT w8 (wc.heap.size + 1) 0 [(x, y)]) := Lib.hid (CellsT.kept (by have h := new_cells (wc.alloc (.cells #[] 38)) x y 38; have e : (wc.alloc (.cells #[] 38)).heap.size = wc.heap.size + 1 := (by simp); rw [e] at h; exact h) hg8 (fun e => absurd (Option.some.inj e) (Nat.succ_ne_self _))))
                    | ((with_reducible refine step_append_tc (((wc.alloc (.cells #[.int .i64 x, .int .i64 y] 38)).alloc (.cells #[] 38)).drew) ?_ (.tmp 62) (.tmp 66) ?_ wc.heap.size _ ([]) (l.take k) ?_ (OBA.out) _ ?_ (HSR1.out _ BA.out) ?_ (BA.out.size) ?_); rfl; rfl; rfl; rfl; (simp; omega); intro aa nn cc w8 hO8 hnn hg8 hgg8 hnil; have b8 := Lib.hid (app_below BA.out OBA.out hg8); have y8 := HQ.out.below b8.out; have k8 := And.intro y8.s.par.c1 (And.intro y8.t.c0 y8.t.c1); have y8a := y8.below ((Below.refl _ _).alloc (Nat.le_refl _) (.cells #[.int .i64 x, .int .i64 y] 38)); have k8a := And.intro y8a.s.par.c1 (And.intro y8a.t.c0 y8a.t.c1); have bt : Hid (CellsT w8 wc.heap.size 0 [(x, y)]) := Lib.hid (CellsT.kept ((new_cells2 wc x y 38).below (((Below.refl _ _).alloc (Nat.le_refl _) _).drew)) hg8 (fun e => absurd (Option.some.inj e) (Nat.ne_of_lt (Nat.lt_succ_self _)))))
                    | ((with_reducible refine step_append_tc (w8.alloc (.cells #[.int .i64 x, .int .i64 y] 38)) ?_ (.tmp 67) (.tmp 69) ?_ wc.heap.size _ ([] ++ l.take k) ([(x, y)]) ?_ (hO8.below ((Below.refl _ _).alloc (Nat.le_refl _) (.cells #[.int .i64 x, .int .i64 y] 38))) _ ?_ (srcT_one (new_cells2 w8 x y 38)) ?_ ((b8.out.alloc b8.out.size (.cells #[.int .i64 x, .int .i64 y] 38)).size) ?_); rfl; rfl; rfl; rfl; (simp; omega); intro ab n2 c2 w9 hO9 hnn2 hg9 hgg9 hnil9; have b9 := Lib.hid (app_below (b8.out.alloc b8.out.size (.cells #[.int .i64 x, .int .i64 y] 38)) (hO8.below ((Below.refl _ _).alloc (Nat.le_refl _) (.cells #[.int .i64 x, .int .i64 y] 38))) hg9); have y9 := HQ.out.below b9.out; have k9 := And.intro y9.s.par.c1 (And.intro y9.t.c0 y9.t.c1))
                    | ((with_reducible refine step_append_tc (w8) ?_ (.tmp 67) (.tmp 69) ?_ wc.heap.size _ ([] ++ l.take k) ([(x, y)]) ?_ (hO8) _ ?_ (srcT_one bt.out) ?_ (b8.out.size) ?_); rfl; rfl; rfl; rfl; (simp; omega); intro ab n2 c2 w9 hO9 hnn2 hg9 hgg9 hnil9; have b9 := Lib.hid (app_below (b8.out) (hO8) hg9); have y9 := HQ.out.below b9.out; have k9 := And.intro y9.s.par.c1 (And.intro y9.t.c0 y9.t.c1))
                    | ((with_reducible refine step_append_tc (w9) ?_ (.tmp 70) (.tmp 74) ?_ wc.heap.size _ (([] ++ l.take k) ++ [(x, y)]) (l.drop k) ?_ (hO9) _ ?_ (HSR3.out _ b9.out) ?_ (b9.out.size) ?_); rfl; rfl; rfl; rfl; (simp; omega); intro ac n3 c3 w10 hO10 hnn3 hg10 hgg10 hnil10; have b10 := Lib.hid (app_below b9.out hO9 hg10); have y10 := HQ.out.below b10.out; have x0 := y10.s.out.c0; have x1 := y10.s.out.c1; have x2 := y10.s.of 1; have k10 := And.intro y10.s.par.c1 (And.intro y10.t.c0 y10.t.c1); have k11 : (w10.setCell ⟨ob, 1, none⟩ (.slice ac n3 c3)).cell? ⟨w.heap.size, 1, none⟩ = some (.slice (some ⟨g, o, none⟩) l.length c) ∧ (w10.setCell ⟨ob, 1, none⟩ (.slice ac n3 c3)).cell? ⟨tb, 0, none⟩ = some (.int .i64 x) ∧ (w10.setCell ⟨ob, 1, none⟩ (.slice ac n3 c3)).cell? ⟨tb, 1, none⟩ = some (.int .i64 y) := ⟨(y10.s.par.far (fun e => by have := y10.s.ord; omega)).c1, (y10.t.far (fun e => by have := y10.s.ord; have := y10.tl; omega)).c0, (y10.t.far (fun e => by have := y10.s.ord; have := y10.tl; omega)).c1⟩)
                    | fail))
                  all_goals
                    obtain ⟨g10, rfl⟩ := OwnTc.sl hO10 (by simp)
                    have hl10 : Hid (n3 = (([] ++ l.take k ++ [(x, y)]) ++ l.drop k).length) := hnn3
                    have hgw := (World.ownsRow.lt hO10 g10 rfl).1
                    have hob := HQ.out.s.out.lt
                    have hrbl := HQ.out.s.zer.lt
                    have hrbw := HQ.out.s.ord
                    have HE : Hid (RgV (w10.setCell ⟨ob, 1, none⟩ (.slice (some ⟨g10, 0, none⟩) n3 c3)) ob n0 (.slice (some ⟨g10, 0, none⟩) n3 c3)) := Lib.hid (y10.s.out.set1 _)
                    have HZ : Hid (RgV (w10.setCell ⟨ob, 1, none⟩ (.slice (some ⟨g10, 0, none⟩) n3 c3)) rb 0 (.slice none 0 0)) := Lib.hid (y10.s.zer.far (by omega))
                    have HF : Hid (Soft (w10.setCell ⟨ob, 1, none⟩ (.slice (some ⟨g10, 0, none⟩) n3 c3)) rb) := Lib.hid (y10.s.zf.set _ _)
                    have HO : Hid (OwnTc (w10.setCell ⟨ob, 1, none⟩ (.slice (some ⟨g10, 0, none⟩) n3 c3)) w.heap.size (.slice (some ⟨g10, 0, none⟩) n3 c3) (([] ++ l.take k ++ [(x, y)]) ++ l.drop k)) := Lib.hid (OwnTc.far (OwnTc.lower hO10 HQ.out.s.bel.size) (fun e => absurd (Option.some.inj e : g10 = ob) (by omega)))
                    have HBE : Hid (Below w.heap.size w (w10.setCell ⟨ob, 1, none⟩ (.slice (some ⟨g10, 0, none⟩) n3 c3))) := Lib.hid (y10.s.bel.setCell (show w.heap.size ≤ ob by omega) _)
                    have hge : Hid (g10 ≠ rb) := Lib.hid (by omega)
                    have hrw : Hid (w.heap.size ≤ rb) := Lib.hid (by omega)
                    generalize (if c = k then some (⟨g, o, none⟩ : Addr) else some ⟨g, o + k * 2, none⟩) = aif
                    go_wp2_with fail
                    go_meet
                    exact ⟨g10, n3, c3, hge, HE, HZ, HF, HO, HBE⟩
                case rest =>
                  obtain ⟨g10, n3, c3, hge, HE, HZ, HF, HO, HBE⟩ := hcut
                  have hrw : Hid (w.heap.size ≤ rb) := Lib.hid (by have := HQ.out.s.ord; omega)
                  have KE := Lib.hid (reg_end (m := n0) HBE.out HZ.out HO.out (fun e => hge.out (Option.some.inj e)) hrw.out)
                  obtain ⟨o0, o1⟩ := HE.out
                  obtain ⟨z0, z1⟩ := HZ.out
                  have f0 := HF.out 0
                  have f1 := HF.out 1
                  clear HSR1 HSR3 HC OA OAB OBA AA AB BA hkc hkl hlc' hd hd2 k2 HQ
                  go_wp2_with fail
                  generalize (wc.setCell ⟨rb, 0, none⟩ (.int .i64 n0)).setCell ⟨rb, 1, none⟩ (.slice (some ⟨g10, 0, none⟩) n3 c3) = WF at KE ⊢
                  obtain ⟨k0, k1⟩ := KE.out.1
                  refine bodyPost_ret (v := .tuple #[.agg #[.int .i64 n0, .slice (some ⟨g10, 0, none⟩) n3 c3], .bool true]) ?_ rfl ?_
                  · rw [results_cell_tmp rfl]; go_simp
                  · exact ⟨_, by rw [HR.out], by rw [HR.out]; have h := KE.out.2.2; simpa using h, KE.out.2.1, by simp [Value.ownBlock]⟩
            · have HR := Lib.hid (rtry_no (r := (n0, l)) (t := (x, y)) (.inr (.inr (hq1 rfl))))
              clear hq1 hq2
              obtain ⟨z0, z1⟩ := HQ.out.s.zer
              have f0 := HQ.out.s.zf 0
              have f1 := HQ.out.s.zf 1
              obtain ⟨o0, o1⟩ := HQ.out.s.out
              have KE := Lib.hid (reg_end (m := n0) HQ.out.s.bel HQ.out.s.zer HQ.out.s.own (fun e => HQ.out.s.ne.2.1 (Option.some.inj e)) (by have := HQ.out.s.ord; omega))
              go_wp2_with fail
              generalize (wc.setCell ⟨rb, 0, none⟩ (.int .i64 n0)).setCell ⟨rb, 1, none⟩ (.slice (some ⟨g0, 0, none⟩) l.length c0) = WF at KE ⊢
              obtain ⟨k0, k1⟩ := KE.out.1
              refine bodyPost_ret (v := .tuple #[.agg #[.int .i64 n0, .slice (some ⟨g0, 0, none⟩) l.length c0], .bool false]) ?hr rfl ?_
              case hr => rw [results_cell_tmp rfl]; go_simp
              exact ⟨_, by rw [HR.out], by rw [HR.out]; exact KE.out.2.2, KE.out.2.1, by simp [Value.ownBlock]⟩
    · have HR := Lib.hid (rtry_no (r := (n0, l)) (t := (x, y)) (.inl k1))
      rw [decide_eq_false k1] at C2
      clear k1
      obtain ⟨z0, z1⟩ := HY.out.s.zer
      have f0 := HY.out.s.zf 0
      have f1 := HY.out.s.zf 1
      obtain ⟨o0, o1⟩ := HY.out.s.out
      have KE := Lib.hid (reg_end (m := n0) HY.out.s.bel HY.out.s.zer HY.out.s.own (fun e => HY.out.s.ne.2.1 (Option.some.inj e)) (by have := HY.out.s.ord; omega))
      go_wp2_with (go_at_call 39; (with_reducible refine (C2.out _).mono ?_); rintro e w2 ⟨rfl, rfl⟩)
      generalize (wc.setCell ⟨rb, 0, none⟩ (.int .i64 n0)).setCell ⟨rb, 1, none⟩ (.slice (some ⟨g0, 0, none⟩) l.length c0) = WF at KE ⊢
      obtain ⟨k0, k1⟩ := KE.out.1
      refine bodyPost_ret (v := .tuple #[.agg #[.int .i64 n0, .slice (some ⟨g0, 0, none⟩) l.length c0], .bool false]) ?hr rfl ?_
      case hr => rw [results_cell_tmp rfl]; go_simp
      exact ⟨_, by rw [HR.out], by rw [HR.out]; exact KE.out.2.2, KE.out.2.1, by simp [Value.ownBlock]⟩

end Go.Proofs.Ytlhjhdlpejpooab
