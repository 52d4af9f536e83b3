/- Chapter 31, the model: l31Ready, l31Read, l31Put, l92Limit, l92Stream. -/
import Derived.Test.YthdhjjbgegcncaaQvC
import Derived.Deep.QuietTactic
import Derived.BigQuiet
namespace Go.Proofs.Ythdhjjbgegcncaa
open Go.RowKit
set_option linter.unusedVariables false
set_option linter.unusedSimpArgs false

set_option maxRecDepth 100000 in
set_option maxHeartbeats 1000000 in
theorem sready_any (v : Value) (l : List Pc) (rd fi li : Int) (w : World) (h : Pcs w v l) (hl : l.length ≤ 1000000) (hsz : ∀ p ∈ l, p.2.size ≤ 1000000) :
    Calls Try.prog 45 #[.agg #[.int .i64 rd, v, .int .i64 fi, .int .i64 li]] w fun e w' => e = .returned (.int .i64 (rdy rd l : Int)) ∧ Below w.heap.size w w' := by
  have HP := Lib.hid h
  have HO := Lib.hid hsz
  obtain ⟨g, o, c, rfl, _, hc⟩ := h
  have HC := Lib.hid hc
  clear hsz hc
  have BB : Hid (Below w.heap.size w (w.alloc (.cells #[.int .i64 rd, .slice (some ⟨g, o, none⟩) l.length c, .int .i64 fi, .int .i64 li] 24))) := Lib.hid ((Below.refl _ _).alloc (Nat.le_refl _) _)
  by_cases hz : l.length < 1
  · have HE : Hid (0 = (rdy rd l : Int)) := Lib.hid (by have : l = [] := List.length_eq_zero_iff.1 (by omega); rw [this]; rfl)
    have hb0 : ((l.length : Int) == 0) = true := by rw [beq_iff_eq]; omega
    have hb1 : (l.length == 0) = true := by rw [beq_iff_eq]; omega
    go_enter Try.func45, Try.ntmps45
    go_wp2_with fail
    go_quiet (fail)
    go_wp2_with fail
    go_ret
    exact ⟨ret_int HE.out, below_drewN' BB.out _⟩
  · have hb0 : ((l.length : Int) == 0) = false := by rw [beq_eq_false_iff_ne]; omega
    have hb1 : (l.length == 0) = false := by rw [beq_eq_false_iff_ne]; omega
    have h0a : (0 : Int) < (l.length : Int) := by omega
    have h0b : 0 < l.length := by omega
    obtain ⟨e1, e2⟩ := HC.out 0 (by omega)
    have HR : Hid (rdy rd l = if rd < (l.getD 0 pc0).1 then 0 else (l.getD 0 pc0).2.size) := Lib.hid (by
      cases l with
      | nil => simp at h0b
      | cons p t => rfl)
    have hpk : (l.getD 0 pc0).2.size ≤ 1000000 := by
      have e : l.getD 0 pc0 = l[0] := by rw [List.getD_eq_getElem?_getD, List.getElem?_eq_getElem h0b]; rfl
      rw [e]; exact HO.out _ (List.getElem_mem h0b)
    simp only [Nat.zero_mul, Nat.add_zero] at e1 e2
    have hg1 := World.block_lt_of_cell? w _ e1
    generalize (l.getD 0 pc0).1 = x at e1 HR
    obtain ⟨d, hd⟩ : ∃ d, (l.getD 0 pc0).2 = d := ⟨_, rfl⟩
    rw [hd] at e2 hpk HR
    clear hd
    by_cases hx : rd < x
    · have hdx : decide (rd < x) = true := decide_eq_true hx
      go_enter Try.func45, Try.ntmps45
      go_wp2_with fail
      go_quiet (fail)
      go_wp2_with fail
      go_ret
      exact ⟨ret_int (by rw [HR.out, if_pos hx]; rfl), below_drewN' BB.out _⟩
    · have hdx : decide (rd < x) = false := decide_eq_false hx
      go_enter Try.func45, Try.ntmps45
      go_wp2_with fail
      go_quiet (fail)
      go_wp2_with fail
      go_ret
      exact ⟨ret_int (by rw [HR.out, if_neg (by omega)]), below_drewN' BB.out _⟩

/-- Where a walk stands: the stream given, the result not written yet. -/
def Cur (w W : World) (rd fi li : Int) (v : Value) (l : List Pc) : Prop :=
  Below w.heap.size w W ∧ Pcs W v l ∧ Frm W w.heap.size [.int .i64 rd, v, .int .i64 fi, .int .i64 li] ∧ Frm W (w.heap.size + 1) [.int .i64 0, .slice none 0 0, .int .i64 0, .int .i64 0] ∧ Thaw W (w.heap.size + 1) ∧ w.heap.size + 1 < W.heap.size
theorem Cur.start (w : World) {rd : Int} (fi li : Int) {v : Value} {l : List Pc} (h : Pcs w v l) :
    Cur w ((w.alloc (.cells #[.int .i64 rd, v, .int .i64 fi, .int .i64 li] 24)).alloc (.cells #[.int .i64 0, .slice none 0 0, .int .i64 0, .int .i64 0] 24)) rd fi li v l := by
  have R0 := Frm.new w 24 [.int .i64 rd, v, .int .i64 fi, .int .i64 li]
  have B0 : Below w.heap.size w (w.alloc (.cells #[.int .i64 rd, v, .int .i64 fi, .int .i64 li] 24)) := (Below.refl _ _).alloc (Nat.le_refl _) _
  change Frm (w.alloc (.cells #[.int .i64 rd, v, .int .i64 fi, .int .i64 li] 24)) _ _ at R0
  have hs0 : (w.alloc (.cells #[.int .i64 rd, v, .int .i64 fi, .int .i64 li] 24)).heap.size = w.heap.size + 1 := by simp
  have P0 := h.below B0
  generalize (w.alloc (.cells #[.int .i64 rd, v, .int .i64 fi, .int .i64 li] 24)) = W0 at *
  have R1 := Frm.new W0 24 [.int .i64 0, .slice none 0 0, .int .i64 0, .int .i64 0]
  have T1 := Thaw.new W0 24 [.int .i64 0, .slice none 0 0, .int .i64 0, .int .i64 0]
  have B1 : Below W0.heap.size W0 (W0.alloc (.cells #[.int .i64 0, .slice none 0 0, .int .i64 0, .int .i64 0] 24)) := (Below.refl _ _).alloc (Nat.le_refl _) _
  rw [hs0] at R1 T1
  exact ⟨B0.trans (B1.mono (by omega)), P0.below B1, R0.below B1 (by omega), R1, T1, by simp [hs0]⟩
theorem Cur.below {w W W' : World} {rd fi li : Int} {v : Value} {l : List Pc} (h : Cur w W rd fi li v l) (hb : Below W.heap.size W W') : Cur w W' rd fi li v l := by
  obtain ⟨h1, h2, h3, h4, h5, h6⟩ := h
  exact ⟨h1.trans (hb.mono h1.size), h2.below hb, h3.below hb (by omega), h4.below hb h6, h5.below hb h6, Nat.lt_of_lt_of_le h6 hb.size⟩

theorem fin_cells {w W : World} {rd fi li : Int} {g c n B : Nat} {l : List Pc} (B2 : Below w.heap.size w W) (Z : Frm W (w.heap.size + 1) [.int .i64 0, .slice none 0 0, .int .i64 0, .int .i64 0]) (O : OwnPc W B (.slice (some ⟨g, 0, none⟩) n c) l) (hB : w.heap.size + 1 < B) (hg : B ≤ g) :
    Below w.heap.size w ((((W.setCell ⟨w.heap.size + 1, 0, none⟩ (.int .i64 rd)).setCell ⟨w.heap.size + 1, 1, none⟩ (.slice (some ⟨g, 0, none⟩) n c)).setCell ⟨w.heap.size + 1, 2, none⟩ (.int .i64 fi)).setCell ⟨w.heap.size + 1, 3, none⟩ (.int .i64 li)) ∧
    Frm ((((W.setCell ⟨w.heap.size + 1, 0, none⟩ (.int .i64 rd)).setCell ⟨w.heap.size + 1, 1, none⟩ (.slice (some ⟨g, 0, none⟩) n c)).setCell ⟨w.heap.size + 1, 2, none⟩ (.int .i64 fi)).setCell ⟨w.heap.size + 1, 3, none⟩ (.int .i64 li)) (w.heap.size + 1) [.int .i64 rd, .slice (some ⟨g, 0, none⟩) n c, .int .i64 fi, .int .i64 li] ∧
    OwnPc ((((W.setCell ⟨w.heap.size + 1, 0, none⟩ (.int .i64 rd)).setCell ⟨w.heap.size + 1, 1, none⟩ (.slice (some ⟨g, 0, none⟩) n c)).setCell ⟨w.heap.size + 1, 2, none⟩ (.int .i64 fi)).setCell ⟨w.heap.size + 1, 3, none⟩ (.int .i64 li)) w.heap.size (.slice (some ⟨g, 0, none⟩) n c) l := by
  have hne : ∀ x, (Value.slice (some ⟨g, 0, none⟩) n c).ownBlock = some x → w.heap.size + 1 ≠ x := fun x hx => by
    have hx' : g = x := Option.some.inj hx
    omega
  exact ⟨Below.setCell (Below.setCell (Below.setCell (Below.setCell B2 (p := ⟨w.heap.size + 1, 0, none⟩) (Nat.le_succ _) (.int .i64 rd)) (p := ⟨w.heap.size + 1, 1, none⟩) (Nat.le_succ _) (.slice (some ⟨g, 0, none⟩) n c)) (p := ⟨w.heap.size + 1, 2, none⟩) (Nat.le_succ _) (.int .i64 fi)) (p := ⟨w.heap.size + 1, 3, none⟩) (Nat.le_succ _) (.int .i64 li),
    (((Z.set (i := 0) (by simp) (.int .i64 rd)).set (i := 1) (by simp) (.slice (some ⟨g, 0, none⟩) n c)).set (i := 2) (by simp) (.int .i64 fi)).set (i := 3) (by simp) (.int .i64 li),
    OwnPc.lower (own_far (i := 3) (u := .int .i64 li) (own_far (i := 2) (u := .int .i64 fi) (own_far (i := 1) (u := .slice (some ⟨g, 0, none⟩) n c) (own_far (i := 0) (u := .int .i64 rd) O hne) hne) hne) hne) (by omega)⟩

theorem pcs_at {w : World} {g o n c : Nat} {l : List Pc} (h : Pcs w (.slice (some ⟨g, o, none⟩) n c) l) (i : Nat) (hi : i < l.length) : w.cell? ⟨g, o + i * 2 + 1, none⟩ = some (.string (l.getD i pc0).2) := by
  obtain ⟨g', o', c', he, _, hc⟩ := h
  injection he with e1 e2 e3
  injection e1 with e1
  injection e1 with e1 e4
  subst e1 e4
  exact (hc i hi).2

/-- What a drawn stream keeps. -/
def RvOk (rd li : Int) (l : List Pc) : Prop := 0 ≤ rd ∧ rd ≤ 30 ∧ 0 ≤ li ∧ li ≤ 30 ∧ POk rd l ∧ l.length ≤ 30
def RvAns (w : World) (x : Value → Prop) (e : Ending) (w' : World) : Prop :=
  ∃ (rd fi li : Int) (v y : Value) (l : List Pc), e = .returned (.tuple #[.agg #[.int .i64 rd, v, .int .i64 fi, .int .i64 li], y]) ∧ x y ∧ Below w.heap.size w w' ∧ OwnPc w' w.heap.size v l ∧ v ≠ .slice none 0 0 ∧ RvOk rd li l

end Go.Proofs.Ythdhjjbgegcncaa
