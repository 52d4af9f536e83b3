/- Chapter 31, the model: l31Put, with values. -/
import Derived.Test.YthdhjjbgegcncaaQvE
import Derived.Deep.CutBlock
import Derived.Deep.DeepCutAuto
namespace Go.Proofs.Ythdhjjbgegcncaa
open Go.RowKit
set_option linter.unusedVariables false
set_option linter.unusedSimpArgs false

theorem out_set2 {w W : World} {rd fi li x : Int} {g n c b gb nb cb B : Nat} {l lb : List Pc} (h : Cur w W rd fi li (.slice (some ⟨g, 0, none⟩) n c) l) (hb : b ≠ g) (hb1 : w.heap.size + 1 < b)
    (FZ : Frm W b [.int .i64 0, .slice none 0 0, .int .i64 0, .int .i64 0]) (TZ : Thaw W b) (O : OwnPc W B (.slice (some ⟨gb, 0, none⟩) nb cb) lb) (hgb : b ≠ gb) :
    Cur w ((((W.setCell ⟨b, 0, none⟩ (.int .i64 x)).setCell ⟨b, 1, none⟩ (.slice (some ⟨gb, 0, none⟩) nb cb)).setCell ⟨b, 2, none⟩ (.int .i64 fi)).setCell ⟨b, 3, none⟩ (.int .i64 li)) rd fi li (.slice (some ⟨g, 0, none⟩) n c) l ∧
    Frm ((((W.setCell ⟨b, 0, none⟩ (.int .i64 x)).setCell ⟨b, 1, none⟩ (.slice (some ⟨gb, 0, none⟩) nb cb)).setCell ⟨b, 2, none⟩ (.int .i64 fi)).setCell ⟨b, 3, none⟩ (.int .i64 li)) b [.int .i64 x, .slice (some ⟨gb, 0, none⟩) nb cb, .int .i64 fi, .int .i64 li] ∧
    OwnPc ((((W.setCell ⟨b, 0, none⟩ (.int .i64 x)).setCell ⟨b, 1, none⟩ (.slice (some ⟨gb, 0, none⟩) nb cb)).setCell ⟨b, 2, none⟩ (.int .i64 fi)).setCell ⟨b, 3, none⟩ (.int .i64 li)) B (.slice (some ⟨gb, 0, none⟩) nb cb) lb ∧
    Thaw ((((W.setCell ⟨b, 0, none⟩ (.int .i64 x)).setCell ⟨b, 1, none⟩ (.slice (some ⟨gb, 0, none⟩) nb cb)).setCell ⟨b, 2, none⟩ (.int .i64 fi)).setCell ⟨b, 3, none⟩ (.int .i64 li)) b := by
  obtain ⟨h1, h2, h3⟩ := out_set (x := x) h hb hb1 FZ O hgb
  exact ⟨h1, h2, h3, (((TZ.set _ _).set _ _).set _ _).set _ _⟩
theorem out_new2 {w W : World} {rd fi li x : Int} {g n c gb nb cb B : Nat} {l lb : List Pc} (h : Cur w W rd fi li (.slice (some ⟨g, 0, none⟩) n c) l) (O : OwnPc W B (.slice (some ⟨gb, 0, none⟩) nb cb) lb) :
    Cur w (W.alloc (.cells #[.int .i64 x, .slice (some ⟨gb, 0, none⟩) nb cb, .int .i64 fi, .int .i64 li] 24)) rd fi li (.slice (some ⟨g, 0, none⟩) n c) l ∧
    Frm (W.alloc (.cells #[.int .i64 x, .slice (some ⟨gb, 0, none⟩) nb cb, .int .i64 fi, .int .i64 li] 24)) W.heap.size [.int .i64 x, .slice (some ⟨gb, 0, none⟩) nb cb, .int .i64 fi, .int .i64 li] ∧
    OwnPc (W.alloc (.cells #[.int .i64 x, .slice (some ⟨gb, 0, none⟩) nb cb, .int .i64 fi, .int .i64 li] 24)) B (.slice (some ⟨gb, 0, none⟩) nb cb) lb ∧
    Thaw (W.alloc (.cells #[.int .i64 x, .slice (some ⟨gb, 0, none⟩) nb cb, .int .i64 fi, .int .i64 li] 24)) W.heap.size := by
  obtain ⟨h1, h2, h3⟩ := out_new (x := x) h O
  exact ⟨h1, h2, h3, Thaw.new W 24 [.int .i64 x, .slice (some ⟨gb, 0, none⟩) nb cb, .int .i64 fi, .int .i64 li]⟩

theorem of_bne_false {x y : Int} (h : (x != y) = false) : x = y := by simpa using h
theorem ne_of_bne {x y z : Int} (h : (x != y) = true) (e : y = z) : x ≠ z := by subst e; simpa using h
theorem pok_len : ∀ {rd lo : Int} {l : List Qc}, pok lo l → l ≠ [] → lo + (l.length : Int) ≤ pend rd l
  | rd, lo, [], _, h => absurd rfl h
  | rd, lo, p :: t, h, _ => by
    obtain ⟨h1, h2, h3⟩ := h
    by_cases ht : t = []
    · subst ht
      unfold pend pend
      simp only [List.length_cons, List.length_nil]
      omega
    · have := pok_len (rd := p.1 + (p.2.size : Int)) h3 ht
      unfold pend
      simp only [List.length_cons]
      omega
theorem rvok_len {rd : Int} {l : List Qc} {fi li : Int} (h : rvok rd l fi li) : l.length ≤ 30 := by
  obtain ⟨h1, h2, h3, h4, _⟩ := h
  by_cases hn : l = []
  · subst hn; simp
  · have := pok_len (rd := rd) h3 hn
    omega
theorem rvok_pc {rd : Int} {l : List Qc} {fi li : Int} (h : rvok rd l fi li) : ∀ p ∈ l, rd ≤ p.1 ∧ p.1 + (p.2.size : Int) ≤ li := fun p hp => by
  obtain ⟨h1, h2, h3, h4, _⟩ := h
  have := pok_bd (rd := rd) h3 p hp
  omega
/-- The bytes once j of d's stand at f. -/
def LB (rd : Int) (l : List Qc) (f : Nat) (d : ByteArray) (j : Nat) : Nat → Int := fun n => if rd ≤ (n : Int) ∧ f ≤ n ∧ n < f + j then dat d (n - f) else lay l (fun _ => -1) n
def NoC (l : List Qc) (f : Nat) (d : ByteArray) (j : Nat) : Prop := ∀ k, k < j → ¬ (0 ≤ pat l (f + k) ∧ pat l (f + k) ≠ dat d k)
theorem LB_zero (rd : Int) (l : List Qc) (f : Nat) (d : ByteArray) (n : Nat) : lay l (fun _ => -1) n = LB rd l f d 0 n := by unfold LB; rw [if_neg (by omega)]
theorem LB_at {rd : Int} {l : List Qc} (h : pok rd l) (f : Nat) (d : ByteArray) (j : Nat) : LB rd l f d j (f + j) = pat l (f + j) := by unfold LB; rw [if_neg (by omega), lay_all h]
theorem LB_set {rd : Int} {l : List Qc} {f p : Nat} {d : ByteArray} {j : Nat} {y : Int} (hp : f + j = p) (hr : rd ≤ (p : Int)) (hy : y = dat d j) (n : Nat) : (if n = p then y else LB rd l f d j n) = LB rd l f d (j + 1) n := by
  unfold LB
  by_cases hn : n = p
  · subst hn
    rw [if_pos rfl, if_pos (by omega), hy]
    congr 1
    omega
  · rw [if_neg hn]
    by_cases hc : rd ≤ (n : Int) ∧ f ≤ n ∧ n < f + j
    · rw [if_pos hc, if_pos (by omega)]
    · rw [if_neg hc, if_neg (by omega)]
theorem LB_keep {rd : Int} {l : List Qc} {f p : Nat} {d : ByteArray} {j : Nat} (hp : f + j = p) (hr : ¬ rd ≤ (p : Int)) (n : Nat) : LB rd l f d j n = LB rd l f d (j + 1) n := by
  unfold LB
  by_cases hc : rd ≤ (n : Int) ∧ f ≤ n ∧ n < f + j
  · rw [if_pos hc, if_pos (by omega)]
  · rw [if_neg hc, if_neg (by omega)]
theorem LB_bd {rd : Int} {l : List Qc} (h : pok rd l) (f : Nat) (d : ByteArray) (j n : Nat) : LB rd l f d j n ≤ 255 := by
  unfold LB
  split
  · exact (dat_bd _ _).2
  · rw [lay_all h]; rcases pat_cases l n with e | e <;> omega
theorem NoC.step {l : List Qc} {f p : Nat} {d : ByteArray} {j : Nat} {x : Int} (h : NoC l f d j) (hp : f + j = p) (hx : pat l p = x) (hh : x < 0 ∨ x = dat d j) : NoC l f d (j + 1) := fun k hk => by
  by_cases e : k = j
  · subst e
    rw [hp, hx]
    omega
  · exact h k (by omega)
theorem put_of {rd : Int} {l lb : List Qc} {fi li fi' : Int} {f : Nat} {d : ByteArray} {fin : Bool} (hv : rvok rd l fi li) (he : (f : Int) + (d.size : Int) ≤ li) (hb : Bld rd.toNat (LB rd l f d d.size) 30 lb) (hf : fi' = if fin then (f : Int) + (d.size : Int) else fi) : Put rd l fi li f d fin lb fi' := by
  obtain ⟨h1, h2, h3, h4, _⟩ := hv
  refine ⟨?_, hf⟩
  have a := hb.all (fun n hn => by
    unfold LB
    split
    · refine ⟨by have := (dat_bd d (n - f)).1; omega, fun _ => by omega⟩
    · rw [lay_all h3]
      refine ⟨by rcases pat_cases l n with e | e <;> omega, fun hn => ?_⟩
      rcases pat_cases l n with e | e
      · exact e
      · have := pat_end (rd := rd) h3 e.1; omega)
  rw [show ((rd.toNat : Nat) : Int) = rd by omega] at a
  exact a.congr fun n hn => by
    unfold LB pnew
    by_cases hc : f ≤ n ∧ n < f + d.size
    · rw [if_pos ⟨hn, hc⟩, if_pos hc]
    · rw [if_neg (fun k => hc k.2), if_neg hc, lay_all h3]
theorem pcode_one {rd : Int} {l : List Qc} {fi li : Int} {o : Nat} {d : ByteArray} {fin : Bool} (h : li < (o : Int) + (d.size : Int)) : pcode rd l fi li o d fin = 1 := by unfold pcode; rw [if_pos h]
theorem pcode_two {rd : Int} {l : List Qc} {fi li : Int} {o : Nat} {d : ByteArray} {fin : Bool} (h : (o : Int) + (d.size : Int) ≤ li) (h2 : pfin rd l fi ((o : Int) + (d.size : Int)) fin) : pcode rd l fi li o d fin = 2 := by unfold pcode; rw [if_neg (by omega), if_pos h2]
theorem pcode_three {rd : Int} {l : List Qc} {fi li : Int} {o : Nat} {d : ByteArray} {fin : Bool} (h : (o : Int) + (d.size : Int) ≤ li) (h2 : ¬ pfin rd l fi ((o : Int) + (d.size : Int)) fin) (h3 : pconf (pat l) o d) : pcode rd l fi li o d fin = 3 := by unfold pcode; rw [if_neg (by omega), if_neg h2, if_pos h3]
theorem pcode_ok {rd : Int} {l : List Qc} {fi li : Int} {o : Nat} {d : ByteArray} {fin : Bool} (h : (o : Int) + (d.size : Int) ≤ li) (h2 : ¬ pfin rd l fi ((o : Int) + (d.size : Int)) fin) (h3 : NoC l o d d.size) : pcode rd l fi li o d fin = 0 := pcode_zero.2 ⟨h, h2, fun ⟨k, hk, h4, h5⟩ => h3 k hk ⟨h4, h5⟩⟩
/-- What l31Put answers. -/
def PutAns (w : World) (rd : Int) (l : List Qc) (fi li : Int) (f : Nat) (d : ByteArray) (fin : Bool) (e : Ending) (w' : World) : Prop :=
  ∃ (v : Value) (l' : List Qc) (fi' c : Int), e = .returned (.tuple #[.agg #[.int .i64 rd, v, .int .i64 fi', .int .i64 li], .int .i64 c]) ∧ c = pcode rd l fi li f d fin ∧ Below w.heap.size w w' ∧ OwnPc w' w.heap.size v l' ∧ v ≠ .slice none 0 0 ∧ (c = 0 → Put rd l fi li f d fin l' fi') ∧ (c ≠ 0 → l' = l ∧ fi' = fi)
def CutP (w wx : World) (rd : Int) (l : List Qc) (fi li : Int) (v : Value) (en : Int) (fin : Bool) : Prop := Cur w wx rd fi li v l ∧ ¬ pfin rd l fi en fin

set_option maxRecDepth 100000 in
set_option maxHeartbeats 8000000 in
theorem sputf_any (v : Value) (l : List Pc) (rd fi li off : Int) (f : Nat) (d : ByteArray) (fin : Bool) (B0 : Nat) (w : World) (ho : OwnPc w B0 v l) (hv : v ≠ .slice none 0 0) (hp : rvok rd l fi li) (he : off = (f : Int)) (h1 : off + (d.size : Int) ≤ li) :
    Calls Try.prog 37 #[.agg #[.int .i64 rd, v, .int .i64 fi, .int .i64 li], .int .i64 off, .string d, .bool fin] w (PutAns w rd l fi li f d fin) := by
  have h := Pcs.of_own ho hv
  have HP := Lib.hid h
  have HO := Lib.hid hp
  have h0 : 0 ≤ off := by omega
  have hl := rvok_len hp
  obtain ⟨⟨l0, l1⟩, ⟨r0, r1⟩, hpo, hpe, hfi⟩ := hp
  have HPK := Lib.hid hpo
  have HP0 : Hid (POk 0 l) := Lib.hid fun p hp => by have := rvok_pc HO.out p hp; omega
  have HPB : Hid (PBd l) := Lib.hid fun p hp => by have := rvok_pc HO.out p hp; omega
  have HC2 : Hid (pfin rd l fi (off + (d.size : Int)) fin → 2 = pcode rd l fi li f d fin) := Lib.hid fun h2 => (pcode_two (by omega) (by rwa [he] at h2)).symm
  have HCN : Hid (∀ x : Int, pend rd l = x → (fin = true ∧ ((0 ≤ fi ∧ fi ≠ off + (d.size : Int)) ∨ off + (d.size : Int) < x)) ∨ (fin = false ∧ 0 ≤ fi ∧ fi < off + (d.size : Int)) → pfin rd l fi (off + (d.size : Int)) fin) := Lib.hid fun x hx hh => by subst hx; exact hh
  have HCM : Hid (∀ x : Int, pend rd l = x → ¬ ((fin = true ∧ ((0 ≤ fi ∧ fi ≠ off + (d.size : Int)) ∨ off + (d.size : Int) < x)) ∨ (fin = false ∧ 0 ≤ fi ∧ fi < off + (d.size : Int))) → ¬ pfin rd l fi (off + (d.size : Int)) fin) := Lib.hid fun x hx hh => by subst hx; exact hh
  have HFB : Hid (∀ n, n < 30 → LB rd l f d d.size n ≤ 255) := Lib.hid fun n _ => LB_bd HPK.out _ _ _ _
  have HPUT : Hid (∀ lb fi', Bld rd.toNat (LB rd l f d d.size) 30 lb → (fi' = if fin then (f : Int) + (d.size : Int) else fi) → Put rd l fi li f d fin lb fi') := Lib.hid fun lb fi' hb hf => put_of HO.out (by omega) hb hf
  obtain ⟨px, hpx⟩ : ∃ px, pend rd l = px := ⟨_, rfl⟩
  have HX := Lib.hid hpx
  have HE := Lib.hid he
  clear hpx hpo hpe hfi he
  obtain ⟨g, c, rfl, hlc, hgB, hgw0⟩ := ho.sl hv
  have CU := Lib.hid (Cur.start w (rd := rd) fi li h)
  have HGW := Lib.hid hgw0
  clear h hlc hgB ho hv hgw0
  have hd : d.size ≤ 30 := by omega
  have hw : IntKind.i64.wrap (off + (d.size : Int)) = off + (d.size : Int) := IntWalk.i64_in _ (by omega)
  have hov : ¬ off + (d.size : Int) > li := by omega
  have hov2 : ¬ li < off + (d.size : Int) := by omega
  go_enter Try.func37, Try.ntmps37
  go_upto_block 0 with fail
  generalize hW1 : ((w.alloc (.cells #[.int .i64 rd, .slice (some ⟨g, 0, none⟩) l.length c, .int .i64 fi, .int .i64 li] 24)).alloc (.cells #[.int .i64 0, .slice none 0 0, .int .i64 0, .int .i64 0] 24)) = W1 at *
  clear hW1
  have q0 := CU.out.2.2.1 0
  have q1 := CU.out.2.2.1 1
  have q2 := CU.out.2.2.1 2
  have q3 := CU.out.2.2.1 3
  go_cut [] (fun wx => Hid (CutP w wx rd l fi li (.slice (some ⟨g, 0, none⟩) l.length c) (off + (d.size : Int)) fin))
  case first =>
    cases fin with
    | true =>
      by_cases hf : 0 ≤ fi
      · have hf' : fi ≥ 0 := hf
        by_cases hne : fi = off + (d.size : Int)
        · have hb : (fi != off + (d.size : Int)) = false := by simp [hne]
          have hb2 : (fi == off + (d.size : Int)) = true := by simp [hne]
          have HNE := Lib.hid hne
          clear hne
          go_wp2_with fail
          refine (send_any _ l rd fi li _ CU.out.2.1 HPB.out (by omega)).mono ?_
          rintro e w2 ⟨rfl, hb2⟩
          rw [HX.out]
          have CU1 := Lib.hid (CU.out.below hb2)
          clear hb2 q0 q1 q2 q3
          have q0 := CU1.out.2.2.1 0
          have q1 := CU1.out.2.2.1 1
          have q2 := CU1.out.2.2.1 2
          have q3 := CU1.out.2.2.1 3
          by_cases hxe : px > off + (d.size : Int)
          · have hxe2 : off + (d.size : Int) < px := hxe
            go_wp2_with fail
            refine (scopy_any _ l rd fi li _ CU1.out.2.1 (by omega)).mono ?_
            rintro e w2 ⟨v2, rfl, hb2, ho2, hn2⟩
            have CU2 := Lib.hid (CU1.out.below hb2)
            clear hb2
            obtain ⟨g2, c2, rfl, hc2, hga, hgb⟩ := ho2.sl hn2
            obtain ⟨B2, P2, F2, Z2, T2, S2⟩ := CU2.out
            have FIN := Lib.hid (fin_cells (rd := rd) (fi := fi) (li := li) B2 Z2 ho2 CU1.out.2.2.2.2.2 hga)
            have r0 := Z2 0
            have r1 := Z2 1
            have r2 := Z2 2
            have r3 := Z2 3
            have t0 := T2 0
            have t1 := T2 1
            have t2 := T2 2
            have t3 := T2 3
            clear B2 P2 F2 Z2 T2 S2 ho2 hn2
            go_wp2_with fail
            obtain ⟨B5, F5, O5⟩ := FIN.out
            clear FIN r0 r1 r2 r3 t0 t1 t2 t3
            generalize ((((w2.setCell ⟨w.heap.size + 1, 0, none⟩ (.int .i64 rd)).setCell ⟨w.heap.size + 1, 1, none⟩ (.slice (some ⟨g2, 0, none⟩) l.length c2)).setCell ⟨w.heap.size + 1, 2, none⟩ (.int .i64 fi)).setCell ⟨w.heap.size + 1, 3, none⟩ (.int .i64 li)) = W5 at *
            have s0 := F5 0
            have s1 := F5 1
            have s2 := F5 2
            have s3 := F5 3
            refine bodyPost_ret (v := .tuple #[.agg #[.int .i64 rd, .slice (some ⟨g2, 0, none⟩) l.length c2, .int .i64 fi, .int .i64 li], .int .i64 2]) ?hr rfl ?_
            case hr => rw [results_cell_tmp rfl]; go_simp
            exact ⟨_, l, fi, 2, rfl, HC2.out (HCN.out px HX.out (by simp; omega)), B5, O5, by simp, fun h => absurd h (by decide), fun _ => ⟨rfl, rfl⟩⟩

          · have hxe2 : ¬ off + (d.size : Int) < px := hxe
            go_wp2_with fail
            go_meet
            exact Lib.hid ⟨CU1.out, HCM.out px HX.out (by have := HNE.out; simp; omega)⟩
        · have hb : (fi != off + (d.size : Int)) = true := by simp [hne]
          have hb2 : (fi == off + (d.size : Int)) = false := by simp [hne]
          have HNE := Lib.hid hne
          clear hne
          go_wp2_with fail
          refine (scopy_any _ l rd fi li _ CU.out.2.1 (by omega)).mono ?_
          rintro e w2 ⟨v2, rfl, hb2, ho2, hn2⟩
          have CU2 := Lib.hid (CU.out.below hb2)
          clear hb2
          obtain ⟨g2, c2, rfl, hc2, hga, hgb⟩ := ho2.sl hn2
          obtain ⟨B2, P2, F2, Z2, T2, S2⟩ := CU2.out
          have FIN := Lib.hid (fin_cells (rd := rd) (fi := fi) (li := li) B2 Z2 ho2 CU.out.2.2.2.2.2 hga)
          have r0 := Z2 0
          have r1 := Z2 1
          have r2 := Z2 2
          have r3 := Z2 3
          have t0 := T2 0
          have t1 := T2 1
          have t2 := T2 2
          have t3 := T2 3
          clear B2 P2 F2 Z2 T2 S2 ho2 hn2
          go_wp2_with fail
          obtain ⟨B5, F5, O5⟩ := FIN.out
          clear FIN r0 r1 r2 r3 t0 t1 t2 t3
          generalize ((((w2.setCell ⟨w.heap.size + 1, 0, none⟩ (.int .i64 rd)).setCell ⟨w.heap.size + 1, 1, none⟩ (.slice (some ⟨g2, 0, none⟩) l.length c2)).setCell ⟨w.heap.size + 1, 2, none⟩ (.int .i64 fi)).setCell ⟨w.heap.size + 1, 3, none⟩ (.int .i64 li)) = W5 at *
          have s0 := F5 0
          have s1 := F5 1
          have s2 := F5 2
          have s3 := F5 3
          refine bodyPost_ret (v := .tuple #[.agg #[.int .i64 rd, .slice (some ⟨g2, 0, none⟩) l.length c2, .int .i64 fi, .int .i64 li], .int .i64 2]) ?hr rfl ?_
          case hr => rw [results_cell_tmp rfl]; go_simp
          exact ⟨_, l, fi, 2, rfl, HC2.out (HCN.out px HX.out (by have := HNE.out; simp; omega)), B5, O5, by simp, fun h => absurd h (by decide), fun _ => ⟨rfl, rfl⟩⟩

      · have hf' : ¬ fi ≥ 0 := hf
        go_wp2_with fail
        refine (send_any _ l rd fi li _ CU.out.2.1 HPB.out (by omega)).mono ?_
        rintro e w2 ⟨rfl, hb2⟩
        rw [HX.out]
        have CU1 := Lib.hid (CU.out.below hb2)
        clear hb2 q0 q1 q2 q3
        have q0 := CU1.out.2.2.1 0
        have q1 := CU1.out.2.2.1 1
        have q2 := CU1.out.2.2.1 2
        have q3 := CU1.out.2.2.1 3
        by_cases hxe : px > off + (d.size : Int)
        · have hxe2 : off + (d.size : Int) < px := hxe
          go_wp2_with fail
          refine (scopy_any _ l rd fi li _ CU1.out.2.1 (by omega)).mono ?_
          rintro e w2 ⟨v2, rfl, hb2, ho2, hn2⟩
          have CU2 := Lib.hid (CU1.out.below hb2)
          clear hb2
          obtain ⟨g2, c2, rfl, hc2, hga, hgb⟩ := ho2.sl hn2
          obtain ⟨B2, P2, F2, Z2, T2, S2⟩ := CU2.out
          have FIN := Lib.hid (fin_cells (rd := rd) (fi := fi) (li := li) B2 Z2 ho2 CU1.out.2.2.2.2.2 hga)
          have r0 := Z2 0
          have r1 := Z2 1
          have r2 := Z2 2
          have r3 := Z2 3
          have t0 := T2 0
          have t1 := T2 1
          have t2 := T2 2
          have t3 := T2 3
          clear B2 P2 F2 Z2 T2 S2 ho2 hn2
          go_wp2_with fail
          obtain ⟨B5, F5, O5⟩ := FIN.out
          clear FIN r0 r1 r2 r3 t0 t1 t2 t3
          generalize ((((w2.setCell ⟨w.heap.size + 1, 0, none⟩ (.int .i64 rd)).setCell ⟨w.heap.size + 1, 1, none⟩ (.slice (some ⟨g2, 0, none⟩) l.length c2)).setCell ⟨w.heap.size + 1, 2, none⟩ (.int .i64 fi)).setCell ⟨w.heap.size + 1, 3, none⟩ (.int .i64 li)) = W5 at *
          have s0 := F5 0
          have s1 := F5 1
          have s2 := F5 2
          have s3 := F5 3
          refine bodyPost_ret (v := .tuple #[.agg #[.int .i64 rd, .slice (some ⟨g2, 0, none⟩) l.length c2, .int .i64 fi, .int .i64 li], .int .i64 2]) ?hr rfl ?_
          case hr => rw [results_cell_tmp rfl]; go_simp
          exact ⟨_, l, fi, 2, rfl, HC2.out (HCN.out px HX.out (by simp; omega)), B5, O5, by simp, fun h => absurd h (by decide), fun _ => ⟨rfl, rfl⟩⟩

        · have hxe2 : ¬ off + (d.size : Int) < px := hxe
          go_wp2_with fail
          go_meet
          exact Lib.hid ⟨CU1.out, HCM.out px HX.out (by simp; omega)⟩
    | false =>
      by_cases hf : 0 ≤ fi
      · have hf' : fi ≥ 0 := hf
        by_cases hxe : off + (d.size : Int) > fi
        · have hxe2 : fi < off + (d.size : Int) := hxe
          go_wp2_with fail
          refine (scopy_any _ l rd fi li _ CU.out.2.1 (by omega)).mono ?_
          rintro e w2 ⟨v2, rfl, hb2, ho2, hn2⟩
          have CU2 := Lib.hid (CU.out.below hb2)
          clear hb2
          obtain ⟨g2, c2, rfl, hc2, hga, hgb⟩ := ho2.sl hn2
          obtain ⟨B2, P2, F2, Z2, T2, S2⟩ := CU2.out
          have FIN := Lib.hid (fin_cells (rd := rd) (fi := fi) (li := li) B2 Z2 ho2 CU.out.2.2.2.2.2 hga)
          have r0 := Z2 0
          have r1 := Z2 1
          have r2 := Z2 2
          have r3 := Z2 3
          have t0 := T2 0
          have t1 := T2 1
          have t2 := T2 2
          have t3 := T2 3
          clear B2 P2 F2 Z2 T2 S2 ho2 hn2
          go_wp2_with fail
          obtain ⟨B5, F5, O5⟩ := FIN.out
          clear FIN r0 r1 r2 r3 t0 t1 t2 t3
          generalize ((((w2.setCell ⟨w.heap.size + 1, 0, none⟩ (.int .i64 rd)).setCell ⟨w.heap.size + 1, 1, none⟩ (.slice (some ⟨g2, 0, none⟩) l.length c2)).setCell ⟨w.heap.size + 1, 2, none⟩ (.int .i64 fi)).setCell ⟨w.heap.size + 1, 3, none⟩ (.int .i64 li)) = W5 at *
          have s0 := F5 0
          have s1 := F5 1
          have s2 := F5 2
          have s3 := F5 3
          refine bodyPost_ret (v := .tuple #[.agg #[.int .i64 rd, .slice (some ⟨g2, 0, none⟩) l.length c2, .int .i64 fi, .int .i64 li], .int .i64 2]) ?hr rfl ?_
          case hr => rw [results_cell_tmp rfl]; go_simp
          exact ⟨_, l, fi, 2, rfl, HC2.out (HCN.out px HX.out (by simp; omega)), B5, O5, by simp, fun h => absurd h (by decide), fun _ => ⟨rfl, rfl⟩⟩

        · have hxe2 : ¬ fi < off + (d.size : Int) := hxe
          go_wp2_with fail
          go_meet
          exact Lib.hid ⟨CU.out, HCM.out px HX.out (by simp; omega)⟩
      · have hf' : ¬ fi ≥ 0 := hf
        go_wp2_with fail
        go_meet
        exact Lib.hid ⟨CU.out, HCM.out px HX.out (by simp; omega)⟩
  case rest =>
    obtain rfl := HE.out
    clear q0 q1 q2 q3
    have CU1 : Hid (Cur w wc rd fi li (.slice (some ⟨g, 0, none⟩) l.length c) l) := Lib.hid hcut.out.1
    have PC1 : Hid (Pcs wc (.slice (some ⟨g, 0, none⟩) l.length c) l) := Lib.hid hcut.out.1.2.1
    have HNF : Hid (¬ pfin rd l fi ((f : Int) + (d.size : Int)) fin) := Lib.hid hcut.out.2
    have HLE := Lib.hid h1
    have q0 := CU1.out.2.2.1 0
    have q1 := CU1.out.2.2.1 1
    have q2 := CU1.out.2.2.1 2
    have q3 := CU1.out.2.2.1 3
    clear hcut
    clear hov hov2
    go_wp2_with fail
    refine (sbytesf_any _ l rd fi li _ PC1.out HP0.out (by omega)).mono ?_
    rintro e wa ⟨ga, rfl, hba, hra⟩
    have CUa := Lib.hid (CU1.out.below hba)
    have HR0 := Lib.hid (hra.congr fun n _ => LB_zero rd l f d n)
    have HN0 : Hid (NoC l f d 0) := Lib.hid (fun k hk => absurd hk (Nat.not_lt_zero _))
    have hga0 := hra.at 0 (by omega)
    have hgg : ga ≠ g := by have := HGW.out; have := CU1.out.1.size; have := hga0.2.2; omega
    have hgw : w.heap.size + 1 < ga := by have := hga0.2.2; have := CU1.out.2.2.2.2.2; omega
    clear q0 q1 q2 q3 hba hra hga0
    go_wp2_with fail
    go_loopw [12] (fun iv wr => ∃ j : Nat, j ≤ d.size ∧ iv = .int .i64 (j : Int) ∧ Hid (Cur w wr rd fi li (.slice (some ⟨g, 0, none⟩) l.length c) l) ∧ Hid (Rowf wr wc.heap.size (.slice (some ⟨ga, 0, none⟩) 30 30) (LB rd l f d j)) ∧ Hid (NoC l f d j)) (fun iv _ => d.size - (intOf iv).toNat)
    case atStart => exact ⟨0, Nat.zero_le _, rfl, CUa, HR0, HN0⟩
    case round =>
      clear CUa HR0 HN0 CU1 PC1
      obtain ⟨j, hj, rfl, CU, HR, HN⟩ := hrel
      by_cases hlt : j < d.size
      · have hlt' : (j : Int) < (d.size : Int) := by omega
        obtain ⟨p, hp⟩ : ∃ p : Nat, f + j = p := ⟨_, rfl⟩
        have hp30 : p < 30 := by omega
        have hp30' : (p : Int) < 30 := by omega
        have hp0 : (0 : Int) ≤ (p : Int) := by omega
        have hw1 : IntKind.i64.wrap ((f : Int) + (j : Int)) = (p : Int) := by rw [show (f : Int) + (j : Int) = (p : Int) by omega]; exact IntWalk.i64_in _ (by omega)
        obtain ⟨hc1, hf1, _⟩ := HR.out.at p hp30
        obtain ⟨x, hx⟩ : ∃ x, pat l p = x := ⟨_, rfl⟩
        rw [show LB rd l f d j p = x by rw [← hx, ← hp]; exact LB_at HPK.out f d j] at hc1
        have HNS : Hid (x < 0 ∨ x = dat d j → NoC l f d (j + 1)) := Lib.hid fun hh => HN.out.step hp hx hh
        have HC3 : Hid (0 ≤ x → x ≠ dat d j → 3 = pcode rd l fi li f d fin) := Lib.hid fun a b => (pcode_three HLE.out HNF.out ⟨j, hlt, by rw [hp, hx]; exact a, by rw [hp, hx]; exact b⟩).symm
        have HRs : ∀ n y, rd ≤ (p : Int) → y = dat d j → Hid (Rowf ((wr.drewN n).setCell ⟨ga, p, none⟩ (.int .i64 y)) wc.heap.size (.slice (some ⟨ga, 0, none⟩) 30 30) (LB rd l f d (j + 1))) := fun n y h3 h4 => Lib.hid (((HR.out.drew n).set p hp30 y).congr fun i _ => LB_set hp h3 h4 i)
        have HRn : ∀ n, ¬ rd ≤ (p : Int) → Hid (Rowf (wr.drewN n) wc.heap.size (.slice (some ⟨ga, 0, none⟩) 30 30) (LB rd l f d (j + 1))) := fun n h3 => Lib.hid ((HR.out.drew n).congr fun i _ => LB_keep hp h3 i)
        have HDJ : Hid (wrap64 ((d[j]'hlt).toNat : Int) = dat d j) := Lib.hid (by rw [dat_get d hlt]; unfold wrap64; have := (d[j]'hlt).toNat_lt; omega)
        clear hp hx
        have q0 := CU.out.2.2.1 0
        have q1 := CU.out.2.2.1 1
        have q2 := CU.out.2.2.1 2
        have q3 := CU.out.2.2.1 3
        have CUn := fun n => Lib.hid (CU.out.drew n)
        have CUs := fun n y => Lib.hid ((CU.out.drew n).set (b := ga) (i := p) (u := y) hgg hgw)
        have CUS := Lib.hid CUs
        have HRS := Lib.hid HRs
        have CUN := Lib.hid CUn
        have HRN := Lib.hid HRn
        clear CUs HRs CUn HRn
        by_cases hrp : rd ≤ (p : Int)
        · have hrp2 : (p : Int) ≥ rd := hrp
          by_cases hx : 0 ≤ x
          · have hx2 : x ≥ 0 := hx
            have hdx : decide (x ≥ 0) = true := decide_eq_true hx
            have hdx2 : decide (0 ≤ x) = true := decide_eq_true hx
            go_wp2_with fail
            go_quiet (fail)
            go_wp2_with fail
            · have CU1 : Hid (Cur w (wr.drewN nq) rd fi li (.slice (some ⟨g, 0, none⟩) l.length c) l) := CUN.out nq
              clear q0 q1 q2 q3 hc1 hf1
              refine (scopy_any _ l rd fi li _ CU1.out.2.1 (by omega)).mono ?_
              rintro e w2 ⟨v2, rfl, hb2, ho2, hn2⟩
              have CU2 := Lib.hid (CU1.out.below hb2)
              clear hb2
              obtain ⟨g2, c2, rfl, hc2, hga, hgb⟩ := ho2.sl hn2
              obtain ⟨B2, P2, F2, Z2, T2, S2⟩ := CU2.out
              have FIN := Lib.hid (fin_cells (rd := rd) (fi := fi) (li := li) B2 Z2 ho2 CU1.out.2.2.2.2.2 hga)
              have r0 := Z2 0
              have r1 := Z2 1
              have r2 := Z2 2
              have r3 := Z2 3
              have t0 := T2 0
              have t1 := T2 1
              have t2 := T2 2
              have t3 := T2 3
              clear B2 P2 F2 Z2 T2 S2 ho2 hn2
              go_wp2_with fail
              obtain ⟨B5, F5, O5⟩ := FIN.out
              clear FIN r0 r1 r2 r3 t0 t1 t2 t3
              generalize ((((w2.setCell ⟨w.heap.size + 1, 0, none⟩ (.int .i64 rd)).setCell ⟨w.heap.size + 1, 1, none⟩ (.slice (some ⟨g2, 0, none⟩) l.length c2)).setCell ⟨w.heap.size + 1, 2, none⟩ (.int .i64 fi)).setCell ⟨w.heap.size + 1, 3, none⟩ (.int .i64 li)) = W5 at *
              have s0 := F5 0
              have s1 := F5 1
              have s2 := F5 2
              have s3 := F5 3
              refine bodyPost_ret (v := .tuple #[.agg #[.int .i64 rd, .slice (some ⟨g2, 0, none⟩) l.length c2, .int .i64 fi, .int .i64 li], .int .i64 3]) ?hr rfl ?_
              case hr => rw [results_cell_tmp rfl]; go_simp
              exact ⟨_, l, fi, 3, rfl, HC3.out (by first | assumption | omega) (ne_of_bne (by assumption) HDJ.out), B5, O5, by simp, fun h => absurd h (by decide), fun _ => ⟨rfl, rfl⟩⟩
            · go_roundw
              case rel => exact ⟨j + 1, by omega, by go_num, CUS.out _ _, HRS.out _ _ hrp HDJ.out, HNS.out (.inr ((of_bne_false (by assumption)).trans HDJ.out))⟩
              case measure => simp [intOf]; omega
          · have hx2 : ¬ x ≥ 0 := hx
            have hdx : decide (x ≥ 0) = false := decide_eq_false hx
            have hdx2 : decide (0 ≤ x) = false := decide_eq_false hx
            go_wp2_with fail
            go_quiet (fail)
            go_wp2_with fail
            go_roundw
            case rel => exact ⟨j + 1, by omega, by go_num, CUS.out _ _, HRS.out _ _ hrp HDJ.out, HNS.out (.inl (by omega))⟩
            case measure => simp [intOf]; omega
        · have hrp2 : ¬ (p : Int) ≥ rd := hrp
          by_cases hx : 0 ≤ x
          · have hx2 : x ≥ 0 := hx
            have hdx : decide (x ≥ 0) = true := decide_eq_true hx
            have hdx2 : decide (0 ≤ x) = true := decide_eq_true hx
            go_wp2_with fail
            go_quiet (fail)
            go_wp2_with fail
            · have CU1 : Hid (Cur w (wr.drewN nq) rd fi li (.slice (some ⟨g, 0, none⟩) l.length c) l) := CUN.out nq
              clear q0 q1 q2 q3 hc1 hf1
              refine (scopy_any _ l rd fi li _ CU1.out.2.1 (by omega)).mono ?_
              rintro e w2 ⟨v2, rfl, hb2, ho2, hn2⟩
              have CU2 := Lib.hid (CU1.out.below hb2)
              clear hb2
              obtain ⟨g2, c2, rfl, hc2, hga, hgb⟩ := ho2.sl hn2
              obtain ⟨B2, P2, F2, Z2, T2, S2⟩ := CU2.out
              have FIN := Lib.hid (fin_cells (rd := rd) (fi := fi) (li := li) B2 Z2 ho2 CU1.out.2.2.2.2.2 hga)
              have r0 := Z2 0
              have r1 := Z2 1
              have r2 := Z2 2
              have r3 := Z2 3
              have t0 := T2 0
              have t1 := T2 1
              have t2 := T2 2
              have t3 := T2 3
              clear B2 P2 F2 Z2 T2 S2 ho2 hn2
              go_wp2_with fail
              obtain ⟨B5, F5, O5⟩ := FIN.out
              clear FIN r0 r1 r2 r3 t0 t1 t2 t3
              generalize ((((w2.setCell ⟨w.heap.size + 1, 0, none⟩ (.int .i64 rd)).setCell ⟨w.heap.size + 1, 1, none⟩ (.slice (some ⟨g2, 0, none⟩) l.length c2)).setCell ⟨w.heap.size + 1, 2, none⟩ (.int .i64 fi)).setCell ⟨w.heap.size + 1, 3, none⟩ (.int .i64 li)) = W5 at *
              have s0 := F5 0
              have s1 := F5 1
              have s2 := F5 2
              have s3 := F5 3
              refine bodyPost_ret (v := .tuple #[.agg #[.int .i64 rd, .slice (some ⟨g2, 0, none⟩) l.length c2, .int .i64 fi, .int .i64 li], .int .i64 3]) ?hr rfl ?_
              case hr => rw [results_cell_tmp rfl]; go_simp
              exact ⟨_, l, fi, 3, rfl, HC3.out (by first | assumption | omega) (ne_of_bne (by assumption) HDJ.out), B5, O5, by simp, fun h => absurd h (by decide), fun _ => ⟨rfl, rfl⟩⟩
            · go_roundw
              case rel => exact ⟨j + 1, by omega, by go_num, CUN.out _, HRN.out _ hrp, HNS.out (.inr ((of_bne_false (by assumption)).trans HDJ.out))⟩
              case measure => simp [intOf]; omega
          · have hx2 : ¬ x ≥ 0 := hx
            have hdx : decide (x ≥ 0) = false := decide_eq_false hx
            have hdx2 : decide (0 ≤ x) = false := decide_eq_false hx
            go_wp2_with fail
            go_quiet (fail)
            go_wp2_with fail
            go_roundw
            case rel => exact ⟨j + 1, by omega, by go_num, CUN.out _, HRN.out _ hrp, HNS.out (.inl (by omega))⟩
            case measure => simp [intOf]; omega
      · have hlt' : ¬ (j : Int) < (d.size : Int) := by omega
        have kS0 := sc_of CU.out
        have CUd : Cur w wr.drew rd fi li (.slice (some ⟨g, 0, none⟩) l.length c) l := CU.out.drew 1
        have CUe : ∀ ob, Cur w (wr.alloc ob).drew rd fi li (.slice (some ⟨g, 0, none⟩) l.length c) l := fun ob => (CU.out.alloc ob).drew 1
        have ej : j = d.size := by omega
        have HRd : Rowf wr.drew wc.heap.size (.slice (some ⟨ga, 0, none⟩) 30 30) (LB rd l f d d.size) := by rw [← ej]; exact HR.out.drew 1
        have HC0 : Hid (0 = pcode rd l fi li f d fin) := Lib.hid (pcode_ok HLE.out HNF.out (by rw [← ej]; exact HN.out)).symm
        have HRe : ∀ ob, Rowf (wr.alloc ob).drew wc.heap.size (.slice (some ⟨ga, 0, none⟩) 30 30) (LB rd l f d d.size) := fun ob => by rw [← ej]; exact (HR.out.below ((Below.refl _ _).alloc (Nat.le_refl _) ob)).drew 1
        clear ej
        have kSd := sc_of CUd
        have kSE := fun ob => sc_of (CUe ob)
        have q0 := CU.out.2.2.1 0
        have q1 := CU.out.2.2.1 1
        have q2 := CU.out.2.2.1 2
        have q3 := CU.out.2.2.1 3
        have j5 : rd ≤ 30 := by omega
        have hgr : g < wr.heap.size := by have := HGW.out; have := CU.out.1.size; omega
        go_wp2_with fail
        go_region_held3 (fun W => W.cell? ⟨w.heap.size, 0, none⟩ = some (.int .i64 rd) ∧ W.cell? ⟨w.heap.size, 1, none⟩ = some (.slice (some ⟨g, 0, none⟩) l.length c) ∧ W.cell? ⟨w.heap.size, 2, none⟩ = some (.int .i64 fi) ∧ W.cell? ⟨w.heap.size, 3, none⟩ = some (.int .i64 li) ∧ Cur w W rd fi li (.slice (some ⟨g, 0, none⟩) l.length c) l)
          ((with_reducible first | assumption | (exact kSB) | (exact kSC _) | (exact kSD _ _ _ _) | (exact kS0) | (exact kSd) | (exact kSE _)))
          ((first
            | (go_at_call 54; (with_reducible refine (spieces_int ga _ _ _ _ (HRe _) r0 j5 HFB.out).mono ?_); rintro e wb ⟨vb, lb, rfl, hbb, hob, hpb, hlb, hnb⟩; obtain ⟨gb, cb, rfl, hcb, hgb1, hgb2⟩ := hob.sl hnb; have CUb := (CUe _).below hbb; have kSB := sc_of CUb; have FZ := Frm.below (show Frm (wr.alloc (.cells #[.int .i64 0, .slice none 0 0, .int .i64 0, .int .i64 0] 24)).drew wr.heap.size [.int .i64 0, .slice none 0 0, .int .i64 0, .int .i64 0] from Frm.new wr 24 [.int .i64 0, .slice none 0 0, .int .i64 0, .int .i64 0]) hbb (by simp); have TZ := Thaw.below (show Thaw (wr.alloc (.cells #[.int .i64 0, .slice none 0 0, .int .i64 0, .int .i64 0] 24)).drew wr.heap.size from Thaw.new wr 24 [.int .i64 0, .slice none 0 0, .int .i64 0, .int .i64 0]) hbb (by simp); have z0 := FZ 0; have z1 := FZ 1; have z2 := FZ 2; have z3 := FZ 3; have y0 := TZ 0; have y1 := TZ 1; have y2 := TZ 2; have y3 := TZ 3; have kSD := sc_store CUb (b := wr.heap.size) (by omega) CU.out.2.2.2.2.2)
            | (go_at_call 54; (with_reducible refine (spieces_int ga _ _ _ _ HRd r0 j5 HFB.out).mono ?_); rintro e wb ⟨vb, lb, rfl, hbb, hob, hpb, hlb, hnb⟩; obtain ⟨gb, cb, rfl, hcb, hgb1, hgb2⟩ := hob.sl hnb; have CUb := CUd.below hbb; have kSB := sc_of CUb; have kSC := fun o => sc_of (CUb.alloc o))))
        · have OUT := Lib.hid (out_new2 (x := rd) CUb hob)
          have HBB : Hid (w.heap.size + 1 < wb.heap.size) := Lib.hid (CUb.2.2.2.2.2)
          have HBG : Hid (wb.heap.size ≠ gb) := Lib.hid (by omega)
          have HB1 : Hid (w.heap.size + 1 < wr.drew.heap.size) := Lib.hid ((show w.heap.size + 1 < wr.heap.size from CU.out.2.2.2.2.2))
          have HB2 : Hid (wr.drew.heap.size ≤ gb) := Lib.hid hgb1
          clear CUb CUd CUe kSB kSd kSE kS0 HRd HRe q0 q1 q2 q3 hgb1
          generalize hW5 : (wb.alloc (.cells #[.int .i64 rd, .slice (some ⟨gb, 0, none⟩) lb.length cb, .int .i64 fi, .int .i64 li] 24)) = W5 at *
          generalize hbbe : wb.heap.size = bb at *
          generalize hBBe : wr.drew.heap.size = BB at *
          clear hW5 hbbe hBBe
          cases fin with
          | true =>
            obtain ⟨CO, FO, OO, TO⟩ := OUT.out
            obtain ⟨B2, P2, F2, Z2, T2, S2⟩ := CO
            have o2 := FO 2
            have y2 := TO 2
            have hbr : bb ≠ w.heap.size + 1 := by have := HBB.out; omega
            have FO' : Hid (Frm (W5.setCell ⟨bb, 2, none⟩ (.int .i64 ((f : Int) + (d.size : Int)))) bb [.int .i64 rd, .slice (some ⟨gb, 0, none⟩) lb.length cb, .int .i64 ((f : Int) + (d.size : Int)), .int .i64 li]) := Lib.hid (FO.set (i := 2) (by simp) _)
            have Z2' : Hid (Frm (W5.setCell ⟨bb, 2, none⟩ (.int .i64 ((f : Int) + (d.size : Int)))) (w.heap.size + 1) [.int .i64 0, .slice none 0 0, .int .i64 0, .int .i64 0]) := Lib.hid (Z2.far hbr _)
            have T2' : Hid (Thaw (W5.setCell ⟨bb, 2, none⟩ (.int .i64 ((f : Int) + (d.size : Int)))) (w.heap.size + 1)) := Lib.hid (T2.set _ _)
            have B2' : Hid (Below w.heap.size w (W5.setCell ⟨bb, 2, none⟩ (.int .i64 ((f : Int) + (d.size : Int))))) := Lib.hid (B2.setCell (p := ⟨bb, 2, none⟩) (by have := HBB.out; show w.heap.size ≤ bb; omega) _)
            have OO' : Hid (OwnPc (W5.setCell ⟨bb, 2, none⟩ (.int .i64 ((f : Int) + (d.size : Int)))) BB (.slice (some ⟨gb, 0, none⟩) lb.length cb) lb) := Lib.hid (own_far OO (fun x hx => by have hx' : gb = x := Option.some.inj hx; have := HBG.out; omega))
            clear B2 P2 F2 Z2 T2 S2 OO FO TO
            go_upto_region 19 with fail
            generalize hW6 : (W5.setCell ⟨bb, 2, none⟩ (.int .i64 ((f : Int) + (d.size : Int)))) = W6 at *
            clear hW6 o2 y2
            have FIN := Lib.hid (fin_cells (rd := rd) (fi := ((f : Int) + (d.size : Int))) (li := li) B2'.out Z2'.out OO'.out HB1.out HB2.out)
            have o0 := FO'.out 0
            have o1 := FO'.out 1
            have o2 := FO'.out 2
            have o3 := FO'.out 3
            have r0' := Z2'.out 0
            have r1' := Z2'.out 1
            have r2' := Z2'.out 2
            have r3' := Z2'.out 3
            have t0 := T2'.out 0
            have t1 := T2'.out 1
            have t2 := T2'.out 2
            have t3 := T2'.out 3
            go_wp2_with fail
            obtain ⟨B5, F5, O5⟩ := FIN.out
            clear FIN r0' r1' r2' r3' t0 t1 t2 t3 o0 o1 o2 o3
            generalize ((((W6.setCell ⟨w.heap.size + 1, 0, none⟩ (.int .i64 rd)).setCell ⟨w.heap.size + 1, 1, none⟩ (.slice (some ⟨gb, 0, none⟩) lb.length cb)).setCell ⟨w.heap.size + 1, 2, none⟩ (.int .i64 ((f : Int) + (d.size : Int)))).setCell ⟨w.heap.size + 1, 3, none⟩ (.int .i64 li)) = W7 at *
            have s0 := F5 0
            have s1 := F5 1
            have s2 := F5 2
            have s3 := F5 3
            refine bodyPost_ret (v := .tuple #[.agg #[.int .i64 rd, .slice (some ⟨gb, 0, none⟩) lb.length cb, .int .i64 ((f : Int) + (d.size : Int)), .int .i64 li], .int .i64 0]) ?hr rfl ?_
            case hr => rw [results_cell_tmp rfl]; go_simp
            exact ⟨_, lb, _, 0, rfl, HC0.out, B5, O5, by simp, fun _ => HPUT.out lb _ hpb rfl, fun h => absurd rfl h⟩
          | false =>
            obtain ⟨CO, FO, OO, TO⟩ := OUT.out
            obtain ⟨B2, P2, F2, Z2, T2, S2⟩ := CO
            have FO' := Lib.hid FO
            have Z2' := Lib.hid Z2
            have T2' := Lib.hid T2
            have B2' := Lib.hid B2
            have OO' := Lib.hid OO
            clear B2 P2 F2 Z2 T2 S2 OO FO TO
            go_upto_region 19 with fail
            obtain ⟨W6, hW6⟩ : ∃ W6, W5 = W6 := ⟨_, rfl⟩
            subst hW6
            have FIN := Lib.hid (fin_cells (rd := rd) (fi := fi) (li := li) B2'.out Z2'.out OO'.out HB1.out HB2.out)
            have o0 := FO'.out 0
            have o1 := FO'.out 1
            have o2 := FO'.out 2
            have o3 := FO'.out 3
            have r0' := Z2'.out 0
            have r1' := Z2'.out 1
            have r2' := Z2'.out 2
            have r3' := Z2'.out 3
            have t0 := T2'.out 0
            have t1 := T2'.out 1
            have t2 := T2'.out 2
            have t3 := T2'.out 3
            go_wp2_with fail
            obtain ⟨B5, F5, O5⟩ := FIN.out
            clear FIN r0' r1' r2' r3' t0 t1 t2 t3 o0 o1 o2 o3
            generalize ((((W5.setCell ⟨w.heap.size + 1, 0, none⟩ (.int .i64 rd)).setCell ⟨w.heap.size + 1, 1, none⟩ (.slice (some ⟨gb, 0, none⟩) lb.length cb)).setCell ⟨w.heap.size + 1, 2, none⟩ (.int .i64 fi)).setCell ⟨w.heap.size + 1, 3, none⟩ (.int .i64 li)) = W7 at *
            have s0 := F5 0
            have s1 := F5 1
            have s2 := F5 2
            have s3 := F5 3
            refine bodyPost_ret (v := .tuple #[.agg #[.int .i64 rd, .slice (some ⟨gb, 0, none⟩) lb.length cb, .int .i64 fi, .int .i64 li], .int .i64 0]) ?hr rfl ?_
            case hr => rw [results_cell_tmp rfl]; go_simp
            exact ⟨_, lb, _, 0, rfl, HC0.out, B5, O5, by simp, fun _ => HPUT.out lb _ hpb rfl, fun h => absurd rfl h⟩
        · have OUT := Lib.hid (out_set2 (x := rd) CUb (b := wr.heap.size) (by omega) CU.out.2.2.2.2.2 FZ TZ hob (by have := hgb1; simp at this; omega))
          have HBB : Hid (w.heap.size + 1 < wr.heap.size) := Lib.hid (CU.out.2.2.2.2.2)
          have HBG : Hid (wr.heap.size ≠ gb) := Lib.hid (by have := hgb1; simp at this; omega)
          have HB1 : Hid (w.heap.size + 1 < (wr.alloc (.cells #[.int .i64 0, .slice none 0 0, .int .i64 0, .int .i64 0] 24)).drew.heap.size) := Lib.hid (by have := CU.out.2.2.2.2.2; simp; omega)
          have HB2 : Hid ((wr.alloc (.cells #[.int .i64 0, .slice none 0 0, .int .i64 0, .int .i64 0] 24)).drew.heap.size ≤ gb) := Lib.hid hgb1
          clear CUb CUd CUe kSB kSd kSE kS0 HRd HRe q0 q1 q2 q3 hgb1
          generalize hW5 : ((((wb.setCell ⟨wr.heap.size, 0, none⟩ (.int .i64 rd)).setCell ⟨wr.heap.size, 1, none⟩ (.slice (some ⟨gb, 0, none⟩) lb.length cb)).setCell ⟨wr.heap.size, 2, none⟩ (.int .i64 fi)).setCell ⟨wr.heap.size, 3, none⟩ (.int .i64 li)) = W5 at *
          generalize hbbe : wr.heap.size = bb at *
          generalize hBBe : (wr.alloc (.cells #[.int .i64 0, .slice none 0 0, .int .i64 0, .int .i64 0] 24)).drew.heap.size = BB at *
          clear hW5 hbbe hBBe
          cases fin with
          | true =>
            obtain ⟨CO, FO, OO, TO⟩ := OUT.out
            obtain ⟨B2, P2, F2, Z2, T2, S2⟩ := CO
            have o2 := FO 2
            have y2 := TO 2
            have hbr : bb ≠ w.heap.size + 1 := by have := HBB.out; omega
            have FO' : Hid (Frm (W5.setCell ⟨bb, 2, none⟩ (.int .i64 ((f : Int) + (d.size : Int)))) bb [.int .i64 rd, .slice (some ⟨gb, 0, none⟩) lb.length cb, .int .i64 ((f : Int) + (d.size : Int)), .int .i64 li]) := Lib.hid (FO.set (i := 2) (by simp) _)
            have Z2' : Hid (Frm (W5.setCell ⟨bb, 2, none⟩ (.int .i64 ((f : Int) + (d.size : Int)))) (w.heap.size + 1) [.int .i64 0, .slice none 0 0, .int .i64 0, .int .i64 0]) := Lib.hid (Z2.far hbr _)
            have T2' : Hid (Thaw (W5.setCell ⟨bb, 2, none⟩ (.int .i64 ((f : Int) + (d.size : Int)))) (w.heap.size + 1)) := Lib.hid (T2.set _ _)
            have B2' : Hid (Below w.heap.size w (W5.setCell ⟨bb, 2, none⟩ (.int .i64 ((f : Int) + (d.size : Int))))) := Lib.hid (B2.setCell (p := ⟨bb, 2, none⟩) (by have := HBB.out; show w.heap.size ≤ bb; omega) _)
            have OO' : Hid (OwnPc (W5.setCell ⟨bb, 2, none⟩ (.int .i64 ((f : Int) + (d.size : Int)))) BB (.slice (some ⟨gb, 0, none⟩) lb.length cb) lb) := Lib.hid (own_far OO (fun x hx => by have hx' : gb = x := Option.some.inj hx; have := HBG.out; omega))
            clear B2 P2 F2 Z2 T2 S2 OO FO TO
            go_upto_region 19 with fail
            generalize hW6 : (W5.setCell ⟨bb, 2, none⟩ (.int .i64 ((f : Int) + (d.size : Int)))) = W6 at *
            clear hW6 o2 y2
            have FIN := Lib.hid (fin_cells (rd := rd) (fi := ((f : Int) + (d.size : Int))) (li := li) B2'.out Z2'.out OO'.out HB1.out HB2.out)
            have o0 := FO'.out 0
            have o1 := FO'.out 1
            have o2 := FO'.out 2
            have o3 := FO'.out 3
            have r0' := Z2'.out 0
            have r1' := Z2'.out 1
            have r2' := Z2'.out 2
            have r3' := Z2'.out 3
            have t0 := T2'.out 0
            have t1 := T2'.out 1
            have t2 := T2'.out 2
            have t3 := T2'.out 3
            go_wp2_with fail
            obtain ⟨B5, F5, O5⟩ := FIN.out
            clear FIN r0' r1' r2' r3' t0 t1 t2 t3 o0 o1 o2 o3
            generalize ((((W6.setCell ⟨w.heap.size + 1, 0, none⟩ (.int .i64 rd)).setCell ⟨w.heap.size + 1, 1, none⟩ (.slice (some ⟨gb, 0, none⟩) lb.length cb)).setCell ⟨w.heap.size + 1, 2, none⟩ (.int .i64 ((f : Int) + (d.size : Int)))).setCell ⟨w.heap.size + 1, 3, none⟩ (.int .i64 li)) = W7 at *
            have s0 := F5 0
            have s1 := F5 1
            have s2 := F5 2
            have s3 := F5 3
            refine bodyPost_ret (v := .tuple #[.agg #[.int .i64 rd, .slice (some ⟨gb, 0, none⟩) lb.length cb, .int .i64 ((f : Int) + (d.size : Int)), .int .i64 li], .int .i64 0]) ?hr rfl ?_
            case hr => rw [results_cell_tmp rfl]; go_simp
            exact ⟨_, lb, _, 0, rfl, HC0.out, B5, O5, by simp, fun _ => HPUT.out lb _ hpb rfl, fun h => absurd rfl h⟩
          | false =>
            obtain ⟨CO, FO, OO, TO⟩ := OUT.out
            obtain ⟨B2, P2, F2, Z2, T2, S2⟩ := CO
            have FO' := Lib.hid FO
            have Z2' := Lib.hid Z2
            have T2' := Lib.hid T2
            have B2' := Lib.hid B2
            have OO' := Lib.hid OO
            clear B2 P2 F2 Z2 T2 S2 OO FO TO
            go_upto_region 19 with fail
            obtain ⟨W6, hW6⟩ : ∃ W6, W5 = W6 := ⟨_, rfl⟩
            subst hW6
            have FIN := Lib.hid (fin_cells (rd := rd) (fi := fi) (li := li) B2'.out Z2'.out OO'.out HB1.out HB2.out)
            have o0 := FO'.out 0
            have o1 := FO'.out 1
            have o2 := FO'.out 2
            have o3 := FO'.out 3
            have r0' := Z2'.out 0
            have r1' := Z2'.out 1
            have r2' := Z2'.out 2
            have r3' := Z2'.out 3
            have t0 := T2'.out 0
            have t1 := T2'.out 1
            have t2 := T2'.out 2
            have t3 := T2'.out 3
            go_wp2_with fail
            obtain ⟨B5, F5, O5⟩ := FIN.out
            clear FIN r0' r1' r2' r3' t0 t1 t2 t3 o0 o1 o2 o3
            generalize ((((W5.setCell ⟨w.heap.size + 1, 0, none⟩ (.int .i64 rd)).setCell ⟨w.heap.size + 1, 1, none⟩ (.slice (some ⟨gb, 0, none⟩) lb.length cb)).setCell ⟨w.heap.size + 1, 2, none⟩ (.int .i64 fi)).setCell ⟨w.heap.size + 1, 3, none⟩ (.int .i64 li)) = W7 at *
            have s0 := F5 0
            have s1 := F5 1
            have s2 := F5 2
            have s3 := F5 3
            refine bodyPost_ret (v := .tuple #[.agg #[.int .i64 rd, .slice (some ⟨gb, 0, none⟩) lb.length cb, .int .i64 fi, .int .i64 li], .int .i64 0]) ?hr rfl ?_
            case hr => rw [results_cell_tmp rfl]; go_simp
            exact ⟨_, lb, _, 0, rfl, HC0.out, B5, O5, by simp, fun _ => HPUT.out lb _ hpb rfl, fun h => absurd rfl h⟩
end Go.Proofs.Ythdhjjbgegcncaa
