/- The drawn arguments of ServersTry. -/
import Derived.Test.YtjabejljgoafiaaDrRg
import Derived.Test.YtjabejljgoafiaaSSv
namespace Go.Proofs.Ytjabejljgoafiaa
open Go.RowKit
set_option linter.unusedVariables false
set_option linter.unusedSimpArgs false

/-- Rows of the call's own, the reader behind them. -/
structure SD (w W : World) (b k tb : Nat) (v : Value) (rows : List RgR) : Prop where
  rws : Rows w W v rows
  rd : Rdr W b k
  tk : RgV W tb 0 (.int .i64 0)
  tf : Soft W tb
  ne : ∀ q, v.ownBlock = some q → b < q
  nr : ∀ r ∈ rows, ∀ q, (gsl r).ownBlock = some q → b < q
  len : ∀ r ∈ rows, r.1.2.length ≤ 9 ∧ -1 ≤ r.1.1 ∧ r.1.1 ≤ 1000
  ord : w.heap.size ≤ tb ∧ tb < b
theorem SD.below {w W W' : World} {b k tb : Nat} {v : Value} {rows : List RgR} (h : SD w W b k tb v rows) (hb : Below W.heap.size W W') : SD w W' b k tb v rows :=
  ⟨h.rws.below hb, h.rd.below hb, h.tk.below hb, h.tf.below hb h.tk.lt, h.ne, h.nr, h.len, h.ord⟩
theorem Rows.kept {w W W' : World} {v : Value} {rows : List RgR} {b : Nat} (h : Rows w W v rows) (hg : W.grownBy W' (some b)) (hb : w.heap.size ≤ b) (h1 : v.ownBlock ≠ some b) (h2 : ∀ r ∈ rows, (gsl r).ownBlock ≠ some b) : Rows w W' v rows :=
  ⟨h.bel.grown hg h.bel.size (fun j hj => by have := Option.some.inj hj; omega), h.own.kept hg (.inr h1), h.nn, fun r hr => ⟨World.ownsRow.kept (h.el r hr).1 hg (.inr (h2 r hr)), (h.el r hr).2⟩⟩
theorem SD.pick {w W W' : World} {b k k' tb : Nat} {v : Value} {rows : List RgR} (h : SD w W b k tb v rows) (hg : W.grownBy W' (some b)) (hR : Rdr W' b k') : SD w W' b k' tb v rows := by
  obtain ⟨o1, o2⟩ := h.ord
  have n1 : some tb ≠ some b := fun e => by have := Option.some.inj e; omega
  exact ⟨h.rws.kept hg (by omega) (fun e => Nat.lt_irrefl _ (h.ne _ e)) (fun r hr e => Nat.lt_irrefl _ (h.nr r hr _ e)), hR, h.tk.kept hg n1, h.tf.kept hg h.tk.lt n1, h.ne, h.nr, h.len, h.ord⟩
theorem SD.le {w W : World} {b k k' tb : Nat} {v : Value} {rows : List RgR} (h : SD w W b k tb v rows) (hk : k ≤ k') : SD w W b k' tb v rows := ⟨h.rws, h.rd.le hk, h.tk, h.tf, h.ne, h.nr, h.len, h.ord⟩
/-- The ticket's variable is written. -/
theorem SD.put {w W : World} {b k tb : Nat} {v : Value} {rows : List RgR} (h : SD w W b k tb v rows) (x y : Int) :
    Rows w ((W.setCell ⟨tb, 0, none⟩ (.int .i64 x)).setCell ⟨tb, 1, none⟩ (.int .i64 y)) v rows ∧ RgV ((W.setCell ⟨tb, 0, none⟩ (.int .i64 x)).setCell ⟨tb, 1, none⟩ (.int .i64 y)) tb x (.int .i64 y) := by
  obtain ⟨o1, o2⟩ := h.ord
  have n1 : v.ownBlock ≠ some tb := fun e => by have := h.ne _ e; omega
  have n2 : ∀ r ∈ rows, (gsl r).ownBlock ≠ some tb := fun r hr e => by have := h.nr r hr _ e; omega
  exact ⟨(h.rws.kept (Lib.grownBy_setCell _ _ _ _) o1 n1 n2).kept (Lib.grownBy_setCell _ _ _ _) o1 n1 n2, (h.tk.set0 x).set1 _⟩
theorem SD.snoc {w W W' : World} {b k tb : Nat} {v v' : Value} {rows : List RgR} {r : RgR} (h : SD w W b k tb v rows) (hg : (W.alloc (.cells #[.int .i64 r.1.1, gsl r] 25)).grownBy W' v.ownBlock) (ho : OwnR W' w.heap.size v' (rows ++ [r])) (hv : v'.ownBlock = v.ownBlock ∨ v'.ownBlock = some (W.heap.size + 1))
    (hr : OwnTc W w.heap.size (gsl r) r.1.2) (hn : (gsl r).ownBlock ≠ none) (hrv : (gsl r).ownBlock ≠ v.ownBlock) (hb : ∀ q, (gsl r).ownBlock = some q → b < q) (hl : r.1.2.length ≤ 9 ∧ -1 ≤ r.1.1 ∧ r.1.1 ≤ 1000) : SD w W' b k tb v' (rows ++ [r]) := by
  obtain ⟨o1, o2⟩ := h.ord
  have U : Below W.heap.size W (W.alloc (.cells #[.int .i64 r.1.1, gsl r] 25)) := (Below.refl _ _).alloc (Nat.le_refl _) _
  have hbl : b < W.heap.size := h.rd.1
  have n1 : some tb ≠ v.ownBlock := fun e => by have := h.ne _ e.symm; omega
  refine ⟨h.rws.snoc hg ho hv hr hn hrv, (h.rd.below U).grown hg (fun r e => h.ne r e), (h.tk.below U).kept hg n1, (h.tf.below U h.tk.lt).kept hg (h.tk.below U).lt n1, fun q e => ?_, fun q hq => ?_, fun q hq => ?_, h.ord⟩
  · rcases hv with k | k
    · exact h.ne q (k.symm.trans e)
    · have := Option.some.inj (k.symm.trans e); omega
  · rcases List.mem_append.1 hq with hq | hq
    · exact h.nr q hq
    · rw [List.mem_singleton.1 hq]; exact hb
  · rcases List.mem_append.1 hq with hq | hq
    · exact h.len q hq
    · rw [List.mem_singleton.1 hq]; exact hl
theorem SD.start {w W : World} {b k tb : Nat} (hb : Below w.heap.size w W) (hR : Rdr W b k) (ht : RgV W tb 0 (.int .i64 0)) (hf : Soft W tb) (ho : w.heap.size ≤ tb ∧ tb < b) : SD w (W.alloc (.cells #[] 25)) b k tb (.slice (some ⟨W.heap.size, 0, none⟩) 0 0) [] := by
  have U : Below W.heap.size W (W.alloc (.cells #[] 25)) := (Below.refl _ _).alloc (Nat.le_refl _) _
  have hbl : b < W.heap.size := hR.1
  exact ⟨Rows.start hb, hR.below U, ht.below U, hf.below U ht.lt, (fun q e => by have := Option.some.inj e; simp only at this; omega), (fun r hr => by cases hr), (fun r hr => by cases hr), ho⟩
theorem Rgs.take {P : Prop} {W : World} {a : Option Addr} {n c k : Nat} {L : List Reg} (h : Rgs P W (.slice a n c) L) (hk : k ≤ L.length) : Rgs P W (.slice a k c) (L.take k) := by
  obtain ⟨a', c', e, hc, hx⟩ := h
  injection e with e1 e2 e3
  subst e1
  subst e3
  have hkl : (L.take k).length = k := by simp; omega
  refine ⟨a, c, by rw [hkl], by omega, fun hne => ?_⟩
  obtain ⟨g, o, hg, hc⟩ := hx (by rintro rfl; simp at hne)
  refine ⟨g, o, hg, fun i hi => ?_⟩
  obtain ⟨s, hs⟩ := hc i (by omega)
  have e : (L.take k).getD i rgD = L.getD i rgD := by rw [List.getD_eq_getElem?_getD, List.getD_eq_getElem?_getD, List.getElem?_take_of_lt (by omega)]
  exact ⟨s, by rw [e]; exact hs⟩
theorem rows_len {w W : World} {b k tb : Nat} {v : Value} {rows : List RgR} (h : SD w W b k tb v rows) : ∀ r ∈ rows.map Prod.fst, r.2.length ≤ 9 := by
  intro r hr
  obtain ⟨q, hq, rfl⟩ := List.mem_map.1 hr
  exact (h.len q hq).1
theorem results_s_s_c {fn : Func} {p q r : Tmp} {ty : TypeId} (h : fn.results = #[.tmp p, .tmp q, .cell r ty]) (tmps : Array Value) (P : Program) (w : World) :
    (results fn tmps).run P w = ((asAddr (tmps.getD r undef)).run P w).andThen fun a w₁ => ((loadVar ty a).run P w₁).andThen fun v w₂ => .ok (.tuple #[tmps.getD p undef, tmps.getD q undef, v]) w₂ := by
  simp only [results, h]
  simp [Sem.run_bind, Result.andThen]
def GotDSv (w : World) (e : Ending) (w' : World) : Prop :=
  ∃ (v : Value) (L : List Reg) (at' x y : Int), e = .returned (.tuple #[v, .int .i64 at', .agg #[.int .i64 x, .int .i64 y]]) ∧ Rgs True w' v L ∧ L.length ≤ 4 ∧ (∀ r ∈ L, r.2.length ≤ 9) ∧ Below w.heap.size w w'
set_option maxRecDepth 100000 in
set_option maxHeartbeats 4000000 in
theorem drsv_any (a : Option Addr) (len cap : Nat) (zs : List Int) (w : World) (h : IsRow .u8 w a len cap zs) :
    Calls Try.prog 27 #[.slice a len cap] w (GotDSv w) := by
  have U0 : Below w.heap.size w (w.alloc (.cells #[.int .i64 0, .int .i64 0] 27)) := (Below.refl _ _).alloc (Nat.le_refl _) _
  have H := Lib.hid (h.keep (w' := w.alloc (.cells #[.int .i64 0, .int .i64 0] 27)) fun x hx hc i v hv => cell?_alloc_old _ hv)
  have Z0 := Lib.hid (RgV.new w 0 (.int .i64 0) 27)
  have F0 := Lib.hid (Soft.new w #[.int .i64 0, .int .i64 0] 27)
  have hs0 : (w.alloc (.cells #[.int .i64 0, .int .i64 0] 27)).heap.size = w.heap.size + 1 := by simp
  have HS0 := Lib.hid hs0
  have UU := Lib.hid U0
  clear h U0 hs0
  go_enter Try.func27, Try.ntmps27
  go_wp2_with fail
  refine (open_any a len cap zs _ H.out).mono ?_
  rintro e w1 ⟨rfl, hb, hR⟩
  have B1 := Lib.hid (UU.out.trans (hb.mono (by have := HS0.out; omega)))
  have Z1 := Lib.hid (Z0.out.below hb)
  have F1 := Lib.hid (F0.out.below hb Z0.out.lt)
  have RR := Lib.hid hR
  rw [HS0.out] at RR ⊢
  clear hb hR Z0 F0 UU H
  have S0 := Lib.hid (SD.start B1.out RR.out Z1.out F1.out ⟨Nat.le_refl _, Nat.lt_succ_self _⟩)
  go_upto_block 0 with fail
  generalize w1.alloc (.cells #[] 25) = W2 at S0 ⊢
  generalize (Value.slice (some ⟨w1.heap.size, 0, none⟩) 0 0) = v0 at S0 ⊢
  clear Z1 F1 RR B1 HS0
  go_wp2_with fail
  go_loopw [6, 7] (fun sv iv wr => ∃ (j : Nat) (v : Value) (rows : List RgR), j ≤ 4 ∧ iv = .int .i64 (j : Int) ∧ sv = v ∧ rows.length = j ∧ Hid (SD w wr (w.heap.size + 1) (61 * j) w.heap.size v rows)) (fun _ iv _ => 4 - (intOf iv).toNat)
  case atStart => exact ⟨0, v0, [], Nat.zero_le _, rfl, rfl, rfl, S0⟩
  case round =>
    obtain ⟨j, v, rows, hj, rfl, rfl, hrl, HD⟩ := hrel
    have HRL := Lib.hid hrl
    clear hrl
    go_wp2_with fail
    refine (pick_rdr _ _ 4 _ HD.out.rd (by omega) (by omega) (by omega)).mono ?_
    rintro e w3 ⟨c, hc, rfl, hg3, hR3⟩
    have D3 := Lib.hid (HD.out.pick hg3 hR3)
    have hw : IntKind.i64.wrap (1 + (c : Int)) = 1 + (c : Int) := IntWalk.i64_in _ (by omega)
    clear hg3 hR3
    by_cases hlt : (j : Int) < 1 + (c : Int)
    · have hdl := decide_eq_true hlt
      have hj3 : j ≤ 3 := by omega
      go_wp2_with fail
      refine (drrg_any _ _ _ D3.out.rd (by omega)).mono ?_
      rintro e w4 ⟨n, s, l, rfl, hn, hl, hO, hnn, hg4, hR4⟩
      have D4 := D3.out.pick hg4 hR4
      have U5 : Below w4.heap.size w4 (w4.alloc (.cells #[.int .i64 n, s] 25)) := (Below.refl _ _).alloc (Nat.le_refl _) _
      have D5 := Lib.hid (D4.below U5)
      have X5 := Lib.hid (RgV.new w4 n s 25)
      have hb3 : w.heap.size + 1 < w3.heap.size := D3.out.rd.1
      have O5 := Lib.hid (OwnTc.below (OwnTc.lower hO D3.out.rws.bel.size) U5)
      have HNN := Lib.hid hnn
      have HNV : Hid (s.ownBlock ≠ u6.ownBlock) := Lib.hid fun e => by
        cases hq : s.ownBlock with
        | none => exact hnn hq
        | some q => have h1 := (World.ownsRow.lt hO _ hq).1; have h2 := (World.ownsRow.lt D3.out.rws.own _ (e.symm.trans hq)).2; omega
      have HNB : Hid (∀ q, s.ownBlock = some q → w.heap.size + 1 < q) := Lib.hid fun q e => by have := (World.ownsRow.lt hO _ e).1; omega
      obtain ⟨ax, cx, rfl⟩ := ownsRow_shape hO
      clear D4 U5 hb3 hO hnn hg4 hR4 HD D3
      go_upto_region 7 with fail
      generalize w4.alloc (.cells #[.int .i64 n, .slice ax l.length cx] 25) = W5 at D5 X5 O5 ⊢
      generalize w4.heap.size = xb at X5 ⊢
      obtain ⟨x0, x1⟩ := X5.out
      go_wp2_with (at_builtin; refine wpList_app_reg _ rfl _ _ rfl w.heap.size _ rows rfl D5.out.rws.own ((n, l), ax, cx) _ _ rfl rfl ?c1 ?c2 ?_)
      case c1 => have := HRL.out; omega
      case c2 => exact D5.out.rws.bel.size
      intro v7 w7 hO7 hg7 hv7
      have D7 := Lib.hid ((D5.out.snoc hg7 hO7 hv7 O5.out HNN.out HNV.out HNB.out ⟨hl, hn⟩).le (show 61 * j + 1 + 60 ≤ 61 * (j + 1) by omega))
      clear hg7 hO7 hv7 x0 x1 D5 X5 O5
      go_wp2_with fail
      go_roundw
      case rel => exact ⟨j + 1, v7, rows ++ [((n, l), ax, cx)], by omega, by go_num, rfl, by rw [List.length_append, HRL.out]; rfl, D7⟩
      case measure => simp [intOf]; omega
    · have hdl := decide_eq_false hlt
      have hrl := HRL.out
      have hj0 : 1 ≤ rows.length := by omega
      have hj4 : rows.length ≤ 4 := by omega
      clear hrl
      obtain ⟨a0, c0, rfl⟩ := D3.out.rws.own.shape
      have hcap : rows.length ≤ c0 := by obtain ⟨_, _, e, h, _⟩ := D3.out.rws.rgs True; injection e with e1 e2 e3; subst e3; simpa using h
      go_wp2_with fail
      refine (pick_rdr _ _ 12 _ D3.out.rd (by omega) (by omega) (by omega)).mono ?_
      rintro e w5 ⟨d, hd, rfl, hg5, hR5⟩
      have D5 := Lib.hid (D3.out.pick hg5 hR5)
      clear hg5 hR5 HD D3
      by_cases hd0 : d = 0
      · have hdd : ((d : Int) == 0) = true := by rw [hd0]; rfl
        clear hd0
        go_wp2_with fail
        refine (pick_rdr _ _ 2 _ D5.out.rd (by omega) (by omega) (by omega)).mono ?_
        rintro e w6 ⟨k, hk, rfl, hg6, hR6⟩
        have D6 := Lib.hid (D5.out.pick hg6 hR6)
        have hk0 : (0 : Int) ≤ (k : Int) := by omega
        have hkc : (k : Int) ≤ (c0 : Int) := by omega
        have hkc' : k ≤ c0 := by omega
        have hkr : k ≤ rows.length := by omega
        clear hg6 hR6 D5
        by_cases hn0 : 0 < k
        · have hn0' : (0 : Int) < ((k : Nat) : Int) := by omega
          have hdn := decide_eq_true hn0'
          have hdn2 := decide_eq_true hn0
          have hrr := D6.out.rws.rgs True
          obtain ⟨a', c', he, _, hcx⟩ := hrr
          obtain ⟨g, o, ha, hcc⟩ := hcx (by intro h; rw [List.map_eq_nil_iff] at h; subst h; simp at hkr <;> omega)
          injection he with he1 he2 he3
          subst he1
          subst he3
          subst ha
          clear he2
          obtain ⟨s0, e0, _⟩ := hcc 0 (by simp; omega)
          obtain ⟨n0, hn0e⟩ : ∃ n0, ((rows.map Prod.fst).getD 0 rgD).1 = n0 := ⟨_, rfl⟩
          have hnb : -1 ≤ n0 ∧ n0 ≤ 1000 := by
            rw [← hn0e]
            obtain ⟨q, hq, hqe⟩ := List.mem_map.1 (takeRg (rows.map Prod.fst) 0 (by simp; omega)).2
            rw [← hqe]
            exact (D6.out.len q hq).2
          rw [hn0e, show o + 0 * 2 = o from by omega] at e0
          clear hn0e hcc hcx
          go_wp2_with fail
          refine (pick_rdr _ _ 5 _ D6.out.rd (by omega) (by omega) (by omega)).mono ?_
          rintro e w7 ⟨u1, hu1, rfl, hg7, hR7⟩
          have D7 := Lib.hid (D6.out.pick hg7 hR7)
          clear hg7 hR7
          go_wp2_with fail
          refine (pick_rdr _ _ 12 _ D7.out.rd (by omega) (by omega) (by omega)).mono ?_
          rintro e w8 ⟨u2, hu2, rfl, hg8, hR8⟩
          have D8 := Lib.hid (D7.out.pick hg8 hR8)
          clear hg8 hR8
          go_wp2_with fail
          refine (drtic_any _ _ _ _ D8.out.rd (by omega) (by omega)).mono ?_
          rintro e w9 ⟨x, y, hx, hy, rfl, hg9, hR9⟩
          have D9 := Lib.hid (D8.out.pick hg9 hR9)
          have KE := Lib.hid (D9.out.put x y)
          obtain ⟨z0, z1⟩ := D9.out.tk
          have f0 := D9.out.tf 0
          have f1 := D9.out.tf 1
          have HLL := Lib.hid (rows_len D9.out)
          clear hg9 hR9
          go_wp2_with fail
          generalize (w9.setCell ⟨w.heap.size, 0, none⟩ (.int .i64 x)).setCell ⟨w.heap.size, 1, none⟩ (.int .i64 y) = WF at KE ⊢
          obtain ⟨k0, k1⟩ := KE.out.2
          refine bodyPost_ret (v := .tuple #[.slice (some ⟨g, o, none⟩) k c0, .int .i64 ((u1 : Int) - (u2 : Int) / 11), .agg #[.int .i64 x, .int .i64 y]]) ?hr1 rfl ?_
          case hr1 => rw [results_s_s_c rfl]; go_simp
          refine ⟨_, (rows.map Prod.fst).take k, _, x, y, rfl, ?_, ?_, ?_, KE.out.1.bel⟩
          · exact (KE.out.1.rgs True).take (by simp; omega)
          · simp; omega
          · exact fun r hr => HLL.out r (List.mem_of_mem_take hr)
        · have hn0' : ¬ (0 : Int) < ((k : Nat) : Int) := by omega
          have hdn := decide_eq_false hn0'
          have hdn2 := decide_eq_false hn0
          go_wp2_with fail
          refine (pick_rdr _ _ 5 _ D6.out.rd (by omega) (by omega) (by omega)).mono ?_
          rintro e w7 ⟨u1, hu1, rfl, hg7, hR7⟩
          have D7 := Lib.hid (D6.out.pick hg7 hR7)
          clear hg7 hR7
          go_wp2_with fail
          refine (pick_rdr _ _ 12 _ D7.out.rd (by omega) (by omega) (by omega)).mono ?_
          rintro e w8 ⟨u2, hu2, rfl, hg8, hR8⟩
          have D8 := Lib.hid (D7.out.pick hg8 hR8)
          clear hg8 hR8
          go_wp2_with fail
          refine (drtic_any _ _ _ _ D8.out.rd (by omega) (by omega)).mono ?_
          rintro e w9 ⟨x, y, hx, hy, rfl, hg9, hR9⟩
          have D9 := Lib.hid (D8.out.pick hg9 hR9)
          have KE := Lib.hid (D9.out.put x y)
          obtain ⟨z0, z1⟩ := D9.out.tk
          have f0 := D9.out.tf 0
          have f1 := D9.out.tf 1
          have HLL := Lib.hid (rows_len D9.out)
          clear hg9 hR9
          go_wp2_with fail
          generalize (w9.setCell ⟨w.heap.size, 0, none⟩ (.int .i64 x)).setCell ⟨w.heap.size, 1, none⟩ (.int .i64 y) = WF at KE ⊢
          obtain ⟨k0, k1⟩ := KE.out.2
          refine bodyPost_ret (v := .tuple #[.slice a0 k c0, .int .i64 ((u1 : Int) - (u2 : Int) / 11), .agg #[.int .i64 x, .int .i64 y]]) ?hr2 rfl ?_
          case hr2 => rw [results_s_s_c rfl]; go_simp
          refine ⟨_, (rows.map Prod.fst).take k, _, x, y, rfl, ?_, ?_, ?_, KE.out.1.bel⟩
          · exact (KE.out.1.rgs True).take (by simp; omega)
          · simp; omega
          · exact fun r hr => HLL.out r (List.mem_of_mem_take hr)
      · have hdd : ((d : Int) == 0) = false := by rw [beq_eq_false_iff_ne]; omega
        clear hd0
        by_cases hn0 : 0 < rows.length
        · have hn0' : (0 : Int) < ((rows.length : Nat) : Int) := by omega
          have hdn := decide_eq_true hn0'
          have hdn2 := decide_eq_true hn0
          have hrr := D5.out.rws.rgs True
          obtain ⟨a', c', he, _, hcx⟩ := hrr
          obtain ⟨g, o, ha, hcc⟩ := hcx (by intro h; rw [List.map_eq_nil_iff] at h; subst h; simp at hj0 <;> omega)
          injection he with he1 he2 he3
          subst he1
          subst he3
          subst ha
          clear he2
          obtain ⟨s0, e0, _⟩ := hcc 0 (by simp; omega)
          obtain ⟨n0, hn0e⟩ : ∃ n0, ((rows.map Prod.fst).getD 0 rgD).1 = n0 := ⟨_, rfl⟩
          have hnb : -1 ≤ n0 ∧ n0 ≤ 1000 := by
            rw [← hn0e]
            obtain ⟨q, hq, hqe⟩ := List.mem_map.1 (takeRg (rows.map Prod.fst) 0 (by simp; omega)).2
            rw [← hqe]
            exact (D5.out.len q hq).2
          rw [hn0e, show o + 0 * 2 = o from by omega] at e0
          clear hn0e hcc hcx
          go_wp2_with fail
          refine (pick_rdr _ _ 5 _ D5.out.rd (by omega) (by omega) (by omega)).mono ?_
          rintro e w7 ⟨u1, hu1, rfl, hg7, hR7⟩
          have D7 := Lib.hid (D5.out.pick hg7 hR7)
          clear hg7 hR7
          go_wp2_with fail
          refine (pick_rdr _ _ 12 _ D7.out.rd (by omega) (by omega) (by omega)).mono ?_
          rintro e w8 ⟨u2, hu2, rfl, hg8, hR8⟩
          have D8 := Lib.hid (D7.out.pick hg8 hR8)
          clear hg8 hR8
          go_wp2_with fail
          refine (drtic_any _ _ _ _ D8.out.rd (by omega) (by omega)).mono ?_
          rintro e w9 ⟨x, y, hx, hy, rfl, hg9, hR9⟩
          have D9 := Lib.hid (D8.out.pick hg9 hR9)
          have KE := Lib.hid (D9.out.put x y)
          obtain ⟨z0, z1⟩ := D9.out.tk
          have f0 := D9.out.tf 0
          have f1 := D9.out.tf 1
          have HLL := Lib.hid (rows_len D9.out)
          clear hg9 hR9
          go_wp2_with fail
          generalize (w9.setCell ⟨w.heap.size, 0, none⟩ (.int .i64 x)).setCell ⟨w.heap.size, 1, none⟩ (.int .i64 y) = WF at KE ⊢
          obtain ⟨k0, k1⟩ := KE.out.2
          refine bodyPost_ret (v := .tuple #[.slice (some ⟨g, o, none⟩) rows.length c0, .int .i64 ((u1 : Int) - (u2 : Int) / 11), .agg #[.int .i64 x, .int .i64 y]]) ?hr3 rfl ?_
          case hr3 => rw [results_s_s_c rfl]; go_simp
          refine ⟨_, rows.map Prod.fst, _, x, y, rfl, ?_, ?_, ?_, KE.out.1.bel⟩
          · exact (KE.out.1.rgs True)
          · simp; omega
          · exact HLL.out
        · exact absurd hj0 (by omega)

end Go.Proofs.Ytjabejljgoafiaa
