/- The model's l22Ack. -/
import Derived.Test.YtccolpaenmebeaaSLk
import Derived.Test.YtccolpaenmebeaaSLs
namespace Go.Proofs.Ytccolpaenmebeaa
open Go.RowKit
set_option linter.unusedVariables false
set_option linter.unusedSimpArgs false

theorem ack_got {r : List (Int × Int)} {top t d : Int} {l : List Pk} {j : Nat} (h : j < l.length) (h1 : rhas r (l.getD j pkD).1 = true) : gotL r (l.take (j + 1)) = gotL r (l.take j) ++ [(l.getD j pkD).1] ∧ lostL r top t d (l.take (j + 1)) = lostL r top t d (l.take j) ∧ keptL r top t d (l.take (j + 1)) = keptL r top t d (l.take j) := by
  rw [(takeP l j h).1]
  generalize l.getD j pkD = p at h1
  rw [← hasR_rhas] at h1
  refine ⟨?_, ?_, ?_⟩
  · unfold gotL; rw [List.filter_append, List.map_append]; simp [h1]
  · unfold lostL; rw [List.filter_append, List.map_append]; simp [h1]
  · unfold keptL; rw [List.filter_append]; simp [h1]
theorem ack_lost {r : List (Int × Int)} {top t d : Int} {l : List Pk} {j : Nat} (h : j < l.length) (h1 : rhas r (l.getD j pkD).1 = false) (h2 : (l.getD j pkD).1 < top ∧ ((l.getD j pkD).1 ≤ top - 3 ∨ (l.getD j pkD).2.1 ≤ t - d)) : gotL r (l.take (j + 1)) = gotL r (l.take j) ∧ lostL r top t d (l.take (j + 1)) = lostL r top t d (l.take j) ++ [(l.getD j pkD).1] ∧ keptL r top t d (l.take (j + 1)) = keptL r top t d (l.take j) := by
  rw [(takeP l j h).1]
  generalize l.getD j pkD = p at h1 h2
  rw [← hasR_rhas] at h1
  have h3 : isLost top t d p = true := decide_eq_true h2
  refine ⟨?_, ?_, ?_⟩
  · unfold gotL; rw [List.filter_append, List.map_append]; simp [h1]
  · unfold lostL; rw [List.filter_append, List.map_append]; simp [h1, h3]
  · unfold keptL; rw [List.filter_append]; simp [h1, h3]
theorem ack_kept {r : List (Int × Int)} {top t d : Int} {l : List Pk} {j : Nat} (h : j < l.length) (h1 : rhas r (l.getD j pkD).1 = false) (h2 : ¬ ((l.getD j pkD).1 < top ∧ ((l.getD j pkD).1 ≤ top - 3 ∨ (l.getD j pkD).2.1 ≤ t - d))) : gotL r (l.take (j + 1)) = gotL r (l.take j) ∧ lostL r top t d (l.take (j + 1)) = lostL r top t d (l.take j) ∧ keptL r top t d (l.take (j + 1)) = keptL r top t d (l.take j) ++ [l.getD j pkD] := by
  rw [(takeP l j h).1]
  generalize l.getD j pkD = p at h1 h2
  rw [← hasR_rhas] at h1
  have h3 : isLost top t d p = false := decide_eq_false h2
  refine ⟨?_, ?_, ?_⟩
  · unfold gotL; rw [List.filter_append, List.map_append]; simp [h1]
  · unfold lostL; rw [List.filter_append, List.map_append]; simp [h1, h3]
  · unfold keptL; rw [List.filter_append]; simp [h1, h3]

/-- What an acknowledgement hands back: a state, two lists, each of the call's own, no two sharing a block. -/
def AckL (w : World) (s : Ls × List Int × List Int) (e : Ending) (w' : World) : Prop :=
  ∃ v gv lv, e = .returned (.tuple #[.agg #[.int .i64 s.1.1, v, .int .i64 s.1.2.2], gv, lv]) ∧ OwnPk w' w.heap.size v s.1.2.1 ∧ OwnI w' w.heap.size gv s.2.1 ∧ OwnI w' w.heap.size lv s.2.2 ∧ Below w.heap.size w w' ∧ ∃ qv qg ql, v.ownBlock = some qv ∧ gv.ownBlock = some qg ∧ lv.ownBlock = some ql ∧ qv ≠ qg ∧ qv ≠ ql ∧ qg ≠ ql

theorem results_ctt' {fn : Func} {p t u : Tmp} {ty : TypeId} (h : fn.results = #[.cell p ty, .tmp t, .tmp u]) (tmps : Array Value) (P : Program) (w : World) :
    (results fn tmps).run P w = ((asAddr (tmps.getD p undef)).run P w).andThen fun a w₁ => ((loadVar ty a).run P w₁).andThen fun v w₂ => .ok (.tuple #[v, tmps.getD t undef, tmps.getD u undef]) w₂ := results_ctt h tmps P w

theorem ack_start (w : World) (a : Option Addr) (c : Nat) (n g q : Int) (l : List Pk) : AckS w ((((((w.alloc (.cells #[.int .i64 n, .slice a l.length c, .int .i64 g] 24)).alloc (.cells #[.int .i64 0, .slice none 0 0, .int .i64 0] 24)).alloc (.cells #[] 57)).alloc (.cells #[.int .i64 n, .slice (some ⟨w.heap.size + 1 + 1, 0, none⟩) 0 0, .int .i64 q] 24)).alloc (.cells #[] 3)).alloc (.cells #[] 3)) (.slice (some ⟨w.heap.size + 1 + 1, 0, none⟩) 0 0) (.slice (some ⟨w.heap.size + 1 + 1 + 1 + 1, 0, none⟩) 0 0) (.slice (some ⟨w.heap.size + 1 + 1 + 1 + 1 + 1, 0, none⟩) 0 0) a c n g q l [] [] [] := by
  have s1 : (w.alloc (.cells #[.int .i64 n, .slice a l.length c, .int .i64 g] 24)).heap.size = w.heap.size + 1 := by simp
  have s2 : ((w.alloc (.cells #[.int .i64 n, .slice a l.length c, .int .i64 g] 24)).alloc (.cells #[.int .i64 0, .slice none 0 0, .int .i64 0] 24)).heap.size = w.heap.size + 1 + 1 := by simp
  have s3 : (((w.alloc (.cells #[.int .i64 n, .slice a l.length c, .int .i64 g] 24)).alloc (.cells #[.int .i64 0, .slice none 0 0, .int .i64 0] 24)).alloc (.cells #[] 57)).heap.size = w.heap.size + 1 + 1 + 1 := by simp
  have s4 : ((((w.alloc (.cells #[.int .i64 n, .slice a l.length c, .int .i64 g] 24)).alloc (.cells #[.int .i64 0, .slice none 0 0, .int .i64 0] 24)).alloc (.cells #[] 57)).alloc (.cells #[.int .i64 n, .slice (some ⟨w.heap.size + 1 + 1, 0, none⟩) 0 0, .int .i64 q] 24)).heap.size = w.heap.size + 1 + 1 + 1 + 1 := by simp
  have s5 : (((((w.alloc (.cells #[.int .i64 n, .slice a l.length c, .int .i64 g] 24)).alloc (.cells #[.int .i64 0, .slice none 0 0, .int .i64 0] 24)).alloc (.cells #[] 57)).alloc (.cells #[.int .i64 n, .slice (some ⟨w.heap.size + 1 + 1, 0, none⟩) 0 0, .int .i64 q] 24)).alloc (.cells #[] 3)).heap.size = w.heap.size + 1 + 1 + 1 + 1 + 1 := by simp
  have AL : ∀ (W : World) (o : Obj), Below W.heap.size W (W.alloc o) := fun W o => (Below.refl _ _).alloc (Nat.le_refl _) o
  have X : C3 (w.alloc (.cells #[.int .i64 n, .slice a l.length c, .int .i64 g] 24)) w.heap.size (.int .i64 n) (.slice a l.length c) (.int .i64 g) := C3.new w _ _ _ _
  have Z : C3 ((w.alloc (.cells #[.int .i64 n, .slice a l.length c, .int .i64 g] 24)).alloc (.cells #[.int .i64 0, .slice none 0 0, .int .i64 0] 24)) (w.heap.size + 1) (.int .i64 0) (.slice none 0 0) (.int .i64 0) := by rw [← s1]; exact C3.new _ _ _ _ _
  have ZF : Soft ((w.alloc (.cells #[.int .i64 n, .slice a l.length c, .int .i64 g] 24)).alloc (.cells #[.int .i64 0, .slice none 0 0, .int .i64 0] 24)) (w.heap.size + 1) := by rw [← s1]; exact Soft.new _ _ _
  have K : OwnPk (((w.alloc (.cells #[.int .i64 n, .slice a l.length c, .int .i64 g] 24)).alloc (.cells #[.int .i64 0, .slice none 0 0, .int .i64 0] 24)).alloc (.cells #[] 57)) w.heap.size (.slice (some ⟨w.heap.size + 1 + 1, 0, none⟩) 0 0) [] := by rw [← s2]; exact OwnPk.new _ _ (by omega)
  have O : C3 ((((w.alloc (.cells #[.int .i64 n, .slice a l.length c, .int .i64 g] 24)).alloc (.cells #[.int .i64 0, .slice none 0 0, .int .i64 0] 24)).alloc (.cells #[] 57)).alloc (.cells #[.int .i64 n, .slice (some ⟨w.heap.size + 1 + 1, 0, none⟩) 0 0, .int .i64 q] 24)) (w.heap.size + 1 + 1 + 1) (.int .i64 n) (.slice (some ⟨w.heap.size + 1 + 1, 0, none⟩) 0 0) (.int .i64 q) := by rw [← s3]; exact C3.new _ _ _ _ _
  have OF : Soft ((((w.alloc (.cells #[.int .i64 n, .slice a l.length c, .int .i64 g] 24)).alloc (.cells #[.int .i64 0, .slice none 0 0, .int .i64 0] 24)).alloc (.cells #[] 57)).alloc (.cells #[.int .i64 n, .slice (some ⟨w.heap.size + 1 + 1, 0, none⟩) 0 0, .int .i64 q] 24)) (w.heap.size + 1 + 1 + 1) := by rw [← s3]; exact Soft.new _ _ _
  have G : OwnI (((((w.alloc (.cells #[.int .i64 n, .slice a l.length c, .int .i64 g] 24)).alloc (.cells #[.int .i64 0, .slice none 0 0, .int .i64 0] 24)).alloc (.cells #[] 57)).alloc (.cells #[.int .i64 n, .slice (some ⟨w.heap.size + 1 + 1, 0, none⟩) 0 0, .int .i64 q] 24)).alloc (.cells #[] 3)) w.heap.size (.slice (some ⟨w.heap.size + 1 + 1 + 1 + 1, 0, none⟩) 0 0) [] := by rw [← s4]; exact OwnI.new _ _ (by omega)
  have L : OwnI ((((((w.alloc (.cells #[.int .i64 n, .slice a l.length c, .int .i64 g] 24)).alloc (.cells #[.int .i64 0, .slice none 0 0, .int .i64 0] 24)).alloc (.cells #[] 57)).alloc (.cells #[.int .i64 n, .slice (some ⟨w.heap.size + 1 + 1, 0, none⟩) 0 0, .int .i64 q] 24)).alloc (.cells #[] 3)).alloc (.cells #[] 3)) w.heap.size (.slice (some ⟨w.heap.size + 1 + 1 + 1 + 1 + 1, 0, none⟩) 0 0) [] := by rw [← s5]; exact OwnI.new _ _ (by omega)
  exact ⟨(((((Below.refl _ _).alloc (Nat.le_refl _) _).alloc (by omega) _).alloc (by omega) _ |>.alloc (by omega) _).alloc (by omega) _).alloc (by omega) _,
      ((((X.alloc _).alloc _).alloc _).alloc _).alloc _, (((Z.alloc _).alloc _).alloc _).alloc _,
      (((ZF.below (AL _ _) Z.lt).below (AL _ _) (Z.alloc _).lt).below (AL _ _) ((Z.alloc _).alloc _).lt).below (AL _ _) (((Z.alloc _).alloc _).alloc _).lt,
      (O.alloc _).alloc _, (OF.below (AL _ _) O.lt).below (AL _ _) (O.alloc _).lt, ((K.below (AL _ _)).below (AL _ _)).below (AL _ _), G.below (AL _ _), L,
      ⟨w.heap.size + 1 + 1, w.heap.size + 1 + 1 + 1 + 1, w.heap.size + 1 + 1 + 1 + 1 + 1, rfl, rfl, rfl, ⟨by omega, by omega, by omega⟩, ⟨by omega, by omega, by omega⟩, ⟨by omega, by omega, by omega⟩, ⟨by omega, by omega, by omega⟩⟩⟩

set_option maxRecDepth 100000 in
set_option maxHeartbeats 8000000 in
theorem slack_any (n g t d : Int) (v u : Value) (l : List Pk) (r : List (Int × Int)) (w : World) (hs : Pks w v l) (hr : Rngs w u r) (hl : l.length ≤ 1000) (hlr : r.length ≤ 1048576) (hg : -2000 ≤ topR g r ∧ topR g r ≤ 2000) (ht : -2000 ≤ t ∧ t ≤ 2000) (hd : -2000 ≤ d ∧ d ≤ 2000) : Calls Try.prog 47 #[.agg #[.int .i64 n, v, .int .i64 g], u, .int .i64 t, .int .i64 d] w (AckL w (lack (n, l, g) r t d)) := by
  have HR := Lib.hid hr
  obtain ⟨a, c, rfl, hcc, hs⟩ := hs
  have HC := Lib.hid hs
  obtain ⟨ar, cr, rfl, hrr⟩ := hr
  have HRC := Lib.hid hrr
  clear hs hrr hcc
  have X := Lib.hid (C3.new w (.int .i64 n) (.slice a l.length c) (.int .i64 g) 24)
  obtain ⟨x0, x1, x2⟩ := X.out
  have hw3 : IntKind.i64.wrap (topR g r - 3) = topR g r - 3 := IntWalk.i64_in _ (by omega)
  have hwt : IntKind.i64.wrap (t - d) = t - d := IntWalk.i64_in _ (by omega)
  obtain ⟨top, htop⟩ : ∃ top, topR g r = top := ⟨_, rfl⟩
  have HT := Lib.hid htop
  rw [htop] at hg hw3
  by_cases h0 : r.length = 0
  case pos =>
    have hd1 : decide (0 < (r.length : Int)) = false := decide_eq_false (by omega)
    have hd2 : decide (0 < r.length) = false := decide_eq_false (by omega)
    have hgt : g = top := by rw [← htop, List.length_eq_zero_iff.1 h0]; rfl
    clear htop h0
    subst hgt
    have SS := Lib.hid (ack_start w a c n g g l)
    go_enter Try.func47, Try.ntmps47
    go_wp2_with fail
    go_loopw [12, 13, 14] (fun gv lv iv wr => ∃ (j : Nat) (v : Value), j ≤ l.length ∧ iv = .int .i64 (j : Int) ∧ Hid (AckS w wr v gv lv a c n g g l (keptL r g t d (l.take j)) (gotL r (l.take j)) (lostL r g t d (l.take j)))) (fun _ _ iv _ => l.length - (intOf iv).toNat)
    case atStart => exact ⟨0, _, Nat.zero_le _, rfl, SS⟩
    case round =>
      obtain ⟨j, v, hj, rfl, HS⟩ := hrel
      clear SS x0 x1 x2 X
      obtain ⟨av, cv, hv⟩ := OwnPk.shape HS.out.k
      subst hv
      obtain ⟨x0, x1, x2⟩ := HS.out.x
      by_cases hlt : j < l.length
      case neg =>
        have hlt' : ¬ ((j : Int) < (l.length : Int)) := by omega
        have hjl : j = l.length := by omega
        have HJ := Lib.hid hjl
        clear hjl
        have HZ := HS
        rw [show (keptL r g t d (l.take j)).length = (keptL r g t d l).length by rw [HJ.out, List.take_length]] at HZ
        have HE : Hid (AckS w wr (.slice av (keptL r g t d l).length cv) u12 u13 a c n g g l (keptL r g t d l) (gotL r l) (lostL r g t d l)) := Lib.hid (by have h := HZ.out; rw [HJ.out, List.take_length] at h; exact h)
        clear HZ HS HJ
        obtain ⟨z0, z1, z2⟩ := HE.out.z
        have f0 := HE.out.zf 0
        have f1 := HE.out.zf 1
        have f2 := HE.out.zf 2
        obtain ⟨o0, o1, o2⟩ := HE.out.o
        obtain ⟨m, hm⟩ : ∃ m, (keptL r g t d l).length = m := ⟨_, rfl⟩
        rw [hm] at HE o1
        have HM := Lib.hid hm
        clear hm
        obtain ⟨qv, qg, ql, q1, q2, q3, d1, d2, d3, d4⟩ := HE.out.dis
        have E := Lib.hid (((HE.out.z.set0 (.int .i64 n)).set1 (.slice av m cv)).set2 (.int .i64 g))
        have hx : ∀ q, q ≠ w.heap.size + 1 → some q ≠ some (w.heap.size + 1) := fun q h e => h (Option.some.inj e)
        have EK := Lib.hid (((HE.out.k.far (i := 0) (u := .int .i64 n) (by rw [q1]; exact hx _ d2.2.1)).far (i := 1) (u := .slice av m cv) (by rw [q1]; exact hx _ d2.2.1)).far (i := 2) (u := .int .i64 g) (by rw [q1]; exact hx _ d2.2.1))
        have EG := Lib.hid (((HE.out.g.far (i := 0) (u := .int .i64 n) (by rw [q2]; exact hx _ d3.2.1)).far (i := 1) (u := .slice av m cv) (by rw [q2]; exact hx _ d3.2.1)).far (i := 2) (u := .int .i64 g) (by rw [q2]; exact hx _ d3.2.1))
        have EL := Lib.hid (((HE.out.l.far (i := 0) (u := .int .i64 n) (by rw [q3]; exact hx _ d4.2.1)).far (i := 1) (u := .slice av m cv) (by rw [q3]; exact hx _ d4.2.1)).far (i := 2) (u := .int .i64 g) (by rw [q3]; exact hx _ d4.2.1))
        have EB := Lib.hid (((HE.out.bl.setCell (p := ⟨w.heap.size + 1, 0, none⟩) (Nat.le_succ _) (.int .i64 n)).setCell (p := ⟨w.heap.size + 1, 1, none⟩) (Nat.le_succ _) (.slice av m cv)).setCell (p := ⟨w.heap.size + 1, 2, none⟩) (Nat.le_succ _) (.int .i64 g))
        have ED : Hid (∃ qv qg ql, (Value.slice av m cv).ownBlock = some qv ∧ u12.ownBlock = some qg ∧ u13.ownBlock = some ql ∧ qv ≠ qg ∧ qv ≠ ql ∧ qg ≠ ql) := Lib.hid ⟨qv, qg, ql, q1, q2, q3, d1⟩
        clear hx d1 d2 d3 d4 q1 q2 q3 HE
        go_wp2_with fail
        generalize ((wr.setCell ⟨w.heap.size + 1, 0, none⟩ (.int .i64 n)).setCell ⟨w.heap.size + 1, 1, none⟩ (.slice av m cv)).setCell ⟨w.heap.size + 1, 2, none⟩ (.int .i64 g) = WF at E EK EG EL EB ⊢
        obtain ⟨k0, k1, k2⟩ := E.out
        refine bodyPost_ret (v := .tuple #[.agg #[.int .i64 n, .slice av m cv, .int .i64 g], u12, u13]) ?hr rfl ?_
        case hr => rw [results_ctt rfl]; go_simp
        have EA : lack (n, l, g) r t d = ((n, keptL r g t d l, g), gotL r l, lostL r g t d l) := by unfold lack; simp only [HT.out]
        rw [EA]
        exact ⟨_, _, _, rfl, EK.out, EG.out, EL.out, EB.out, ED.out⟩
      have hlt' : (j : Int) < (l.length : Int) := by omega
      obtain ⟨gb, o, rfl, hc⟩ := HC.out (by rintro rfl; simp at hlt)
      obtain ⟨d0, d1, d2⟩ := hc j hlt
      have hgb := World.block_lt_of_cell? w _ d0
      have e0 := (HS.out.bl.cell (p := ⟨gb, o + j * 3, none⟩) hgb).trans d0
      have e1 := (HS.out.bl.cell (p := ⟨gb, o + j * 3 + 1, none⟩) hgb).trans d1
      have e2 := (HS.out.bl.cell (p := ⟨gb, o + j * 3 + 2, none⟩) hgb).trans d2
      have HG := Lib.hid (fun h1 => ack_got (r := r) (top := g) (t := t) (d := d) hlt h1)
      have HL := Lib.hid (fun h1 h2 => ack_lost (r := r) (top := g) (t := t) (d := d) hlt h1 h2)
      have HKE := Lib.hid (fun h1 h2 => ack_kept (r := r) (top := g) (t := t) (d := d) hlt h1 h2)
      obtain ⟨p, hp⟩ : ∃ p, l.getD j pkD = p := ⟨_, rfl⟩
      rw [hp] at e0 e1 e2 HG HL HKE
      clear hp d0 d1 d2 hc
      obtain ⟨x, y, z⟩ := p
      simp only at e0 e1 e2 HG HL HKE
      have HP := Lib.hid (C3.new wr (.int .i64 x) (.int .i64 y) (.int .i64 z) 57)
      have HS1 := Lib.hid (HS.out.alloc (.cells #[.int .i64 x, .int .i64 y, .int .i64 z] 57))
      have HR1 := Lib.hid (Rngs.below HR.out HS1.out.bl)
      go_wp2_with fail
      refine (l2has_any _ r x _ HR1.out hlr).mono ?_
      rintro e w2 ⟨rfl, hb2⟩
      have HP2 := Lib.hid (HP.out.below hb2)
      have HS2 := Lib.hid (HS1.out.below hb2)
      clear hb2 x0 x1 x2 e0 e1 e2 HP HS1 HR1 HS
      obtain ⟨x0, x1, x2⟩ := HS2.out.x
      obtain ⟨e0, e1, e2⟩ := HP2.out
      obtain ⟨o0, o1, o2⟩ := HS2.out.o
      have of1 := HS2.out.of 1
      have hwj : IntKind.i64.wrap ((j : Int) + 1) = ((j + 1 : Nat) : Int) := by rw [IntWalk.i64_in _ (by omega)]; omega
      have HBS := Lib.hid HS2.out.bl.size
      cases hh : rhas r x with
      | true =>
        obtain ⟨g1, g2, g3⟩ := HG.out hh
        have HJ := Lib.hid (And.intro g1 (And.intro g2 g3))
        clear g1 g2 g3 hh
        obtain ⟨gs, hgs⟩ : ∃ gs, gotL r (l.take j) = gs := ⟨_, rfl⟩
        rw [hgs] at HS2 HJ
        have HGL : Hid (gs.length ≤ 1000) := Lib.hid (by rw [← hgs]; unfold gotL; rw [List.length_map]; exact Nat.le_trans (List.length_filter_le _ _) (by rw [List.length_take]; omega))
        clear hgs
        go_wp2_with (at_builtin; refine wpList_app_int _ rfl _ _ rfl w.heap.size _ gs rfl HS2.out.g _ _ _ rfl (by simp) ?c1 ?c2 ?_)
        case c1 => have := HGL.out; omega
        case c2 => exact HBS.out
        intro v' w4 ho hgr hbk
        have HS4 := Lib.hid (HS2.out.addG _ ho hgr hbk)
        clear ho hgr hbk x0 x1 x2 e0 e1 e2 o0 o1 o2 of1
        go_wp2_with fail
        go_roundw
        case rel => exact ⟨j + 1, _, hlt, by go_num, by rw [HJ.out.1, HJ.out.2.1, HJ.out.2.2]; exact HS4⟩
        case measure => simp [intOf]; omega
      | false =>
        by_cases k1 : x < g
        case neg =>
          have q1 : decide (x < g) = false := decide_eq_false k1
          have HJ := Lib.hid (HKE.out hh (fun h => k1 h.1))
          clear hh k1
          clear HG HL HKE
          obtain ⟨ks, hks⟩ : ∃ ks, keptL r g t d (l.take j) = ks := ⟨_, rfl⟩
          rw [hks] at HS2 HJ o1
          have HKL : Hid (ks.length ≤ 1000) := Lib.hid (by rw [← hks]; unfold keptL; exact Nat.le_trans (List.length_filter_le _ _) (by rw [List.length_take]; omega))
          clear hks
          have HA := Lib.hid (HS2.out.alloc (.cells #[.int .i64 x, .int .i64 y, .int .i64 z] 57))
          have OA := Lib.hid HA.out.k
          have SA : Hid (SrcP (w2.alloc (.cells #[.int .i64 x, .int .i64 y, .int .i64 z] 57)) (.slice (some ⟨w2.heap.size, 0, none⟩) 1 1) [(x, y, z)]) := Lib.hid (SrcP.new _ (x, y, z) _)
          go_wp2_with (at_builtin; refine wpList_app_pk _ rfl _ _ rfl w.heap.size _ ks [(x, y, z)] rfl OA.out _ rfl SA.out ?c1 ?c2 ?_)
          case c1 => have := HKL.out; simp; omega
          case c2 => have := HBS.out; simp; omega
          intro aa nn cc w3 hO hnn hg hgg hnil
          have hnn' : nn = ks.length + 1 := by have h := hnn.out; simpa using h
          subst hnn'
          have HP3 := Lib.hid (HA.out.preK hg)
          have HS4 := Lib.hid (HA.out.addK hO hg (by simpa using hgg))
          clear hO hnn hg hgg hnil x0 x1 x2 e0 e1 e2 o0 o1 o2 of1 HA OA SA
          obtain ⟨o0, o1, o2⟩ := HP3.out.1
          have of1 := HP3.out.2 1
          go_wp2_with fail
          go_roundw
          case rel => exact ⟨j + 1, _, hlt, by go_num, by rw [HJ.out.1, HJ.out.2.1, HJ.out.2.2]; exact HS4⟩
          case measure => simp [intOf]; omega
        have q1 : decide (x < g) = true := decide_eq_true k1
        by_cases k2 : x ≤ g - 3
        case pos =>
          have q2 : decide (x ≤ g - 3) = true := decide_eq_true k2
          have HJ := Lib.hid (HL.out hh ⟨k1, .inl k2⟩)
          clear hh k1 k2
          clear HG HL HKE
          obtain ⟨ls, hls⟩ : ∃ ls, lostL r g t d (l.take j) = ls := ⟨_, rfl⟩
          rw [hls] at HS2 HJ
          have HLL : Hid (ls.length ≤ 1000) := Lib.hid (by rw [← hls]; unfold lostL; rw [List.length_map]; exact Nat.le_trans (List.length_filter_le _ _) (by rw [List.length_take]; omega))
          clear hls
          go_wp2_with (at_builtin; refine wpList_app_int _ rfl _ _ rfl w.heap.size _ ls rfl HS2.out.l _ _ _ rfl (by simp) ?c1 ?c2 ?_)
          case c1 => have := HLL.out; omega
          case c2 => exact HBS.out
          intro v' w4 ho hgr hbk
          have HS4 := Lib.hid (HS2.out.addL _ ho hgr hbk)
          clear ho hgr hbk x0 x1 x2 e0 e1 e2 o0 o1 o2 of1
          go_wp2_with fail
          go_roundw
          case rel => exact ⟨j + 1, _, hlt, by go_num, by rw [HJ.out.1, HJ.out.2.1, HJ.out.2.2]; exact HS4⟩
          case measure => simp [intOf]; omega
        have q2 : decide (x ≤ g - 3) = false := decide_eq_false k2
        by_cases k3 : y ≤ t - d
        case pos =>
          have q3 : decide (y ≤ t - d) = true := decide_eq_true k3
          have HJ := Lib.hid (HL.out hh ⟨k1, .inr k3⟩)
          clear hh k1 k2 k3
          clear HG HL HKE
          obtain ⟨ls, hls⟩ : ∃ ls, lostL r g t d (l.take j) = ls := ⟨_, rfl⟩
          rw [hls] at HS2 HJ
          have HLL : Hid (ls.length ≤ 1000) := Lib.hid (by rw [← hls]; unfold lostL; rw [List.length_map]; exact Nat.le_trans (List.length_filter_le _ _) (by rw [List.length_take]; omega))
          clear hls
          go_wp2_with (at_builtin; refine wpList_app_int _ rfl _ _ rfl w.heap.size _ ls rfl HS2.out.l _ _ _ rfl (by simp) ?c1 ?c2 ?_)
          case c1 => have := HLL.out; omega
          case c2 => exact HBS.out
          intro v' w4 ho hgr hbk
          have HS4 := Lib.hid (HS2.out.addL _ ho hgr hbk)
          clear ho hgr hbk x0 x1 x2 e0 e1 e2 o0 o1 o2 of1
          go_wp2_with fail
          go_roundw
          case rel => exact ⟨j + 1, _, hlt, by go_num, by rw [HJ.out.1, HJ.out.2.1, HJ.out.2.2]; exact HS4⟩
          case measure => simp [intOf]; omega
        have q3 : decide (y ≤ t - d) = false := decide_eq_false k3
        have HJ := Lib.hid (HKE.out hh (fun h => h.2.elim k2 k3))
        clear hh k1 k2 k3
        clear HG HL HKE
        obtain ⟨ks, hks⟩ : ∃ ks, keptL r g t d (l.take j) = ks := ⟨_, rfl⟩
        rw [hks] at HS2 HJ o1
        have HKL : Hid (ks.length ≤ 1000) := Lib.hid (by rw [← hks]; unfold keptL; exact Nat.le_trans (List.length_filter_le _ _) (by rw [List.length_take]; omega))
        clear hks
        have HA := Lib.hid (HS2.out.alloc (.cells #[.int .i64 x, .int .i64 y, .int .i64 z] 57))
        have OA := Lib.hid HA.out.k
        have SA : Hid (SrcP (w2.alloc (.cells #[.int .i64 x, .int .i64 y, .int .i64 z] 57)) (.slice (some ⟨w2.heap.size, 0, none⟩) 1 1) [(x, y, z)]) := Lib.hid (SrcP.new _ (x, y, z) _)
        go_wp2_with (at_builtin; refine wpList_app_pk _ rfl _ _ rfl w.heap.size _ ks [(x, y, z)] rfl OA.out _ rfl SA.out ?c1 ?c2 ?_)
        case c1 => have := HKL.out; simp; omega
        case c2 => have := HBS.out; simp; omega
        intro aa nn cc w3 hO hnn hg hgg hnil
        have hnn' : nn = ks.length + 1 := by have h := hnn.out; simpa using h
        subst hnn'
        have HP3 := Lib.hid (HA.out.preK hg)
        have HS4 := Lib.hid (HA.out.addK hO hg (by simpa using hgg))
        clear hO hnn hg hgg hnil x0 x1 x2 e0 e1 e2 o0 o1 o2 of1 HA OA SA
        obtain ⟨o0, o1, o2⟩ := HP3.out.1
        have of1 := HP3.out.2 1
        go_wp2_with fail
        go_roundw
        case rel => exact ⟨j + 1, _, hlt, by go_num, by rw [HJ.out.1, HJ.out.2.1, HJ.out.2.2]; exact HS4⟩
        case measure => simp [intOf]; omega
  obtain ⟨kr, hkr⟩ : ∃ kr, r.length = kr + 1 := ⟨r.length - 1, by omega⟩
  have hd1 : decide (0 < (r.length : Int)) = true := decide_eq_true (by omega)
  have hd2 : decide (0 < r.length) = true := decide_eq_true (by omega)
  obtain ⟨gr, orr, rfl, hc⟩ := HRC.out (by rintro rfl; simp at h0)
  obtain ⟨_, c1⟩ := hc kr (by omega)
  have hgr := World.block_lt_of_cell? w _ c1
  obtain ⟨hi, hhi⟩ : ∃ hi, (r.getD kr (0, 0)).2 = hi := ⟨_, rfl⟩
  have HMX : Hid (max g hi = top) := Lib.hid (by
    rw [← htop, ← hhi]; unfold topR lastR
    cases r with
    | nil => simp at h0
    | cons p q => simp only [List.length_cons, Nat.add_sub_cancel] at hkr ⊢; rw [show q.length = kr by omega])
  rw [hhi] at c1
  have S0 := Lib.hid (ack_start w a c n g g l)
  have c1 := (S0.out.bl.cell (p := ⟨gr, orr + kr * 2 + 1, none⟩) hgr).trans c1
  have hl1 : (r.length : Int) - 1 = (kr : Int) := by omega
  have hl2 : IntKind.i64.wrap ((r.length : Int) - 1) = (kr : Int) := by rw [hl1]; exact IntWalk.i64_in _ (by omega)
  have hkl : (kr : Int) < (r.length : Int) := by omega
  have hkl' : kr < r.length := by omega
  obtain ⟨y0, y1, y2⟩ := S0.out.x
  obtain ⟨o0, o1, o2⟩ := S0.out.o
  have of2 := S0.out.of 2
  clear htop h0 hkr hc hgr hhi hl1 S0 x0 x1 x2
  go_enter Try.func47, Try.ntmps47
  by_cases hm : g < hi
  case pos =>
    have hm' : (g < hi) = True := eq_true hm
    have hm2 : ¬ hi < g := by omega
    have hm3 : ¬ hi ≤ g := by omega
    have hgt : hi = top := by have := HMX.out; omega
    have SS := Lib.hid ((ack_start w a c n g top l).below (Below.refl _ _).drew)
    clear HMX
    go_wp2_with fail
    go_region
    go_wp2_with fail
    subst hgt
    clear y0 y1 y2 o0 o1 o2 of2 c1 hm hm' hm2 hm3
    go_loopw [12, 13, 14] (fun gv lv iv wr => ∃ (j : Nat) (v : Value), j ≤ l.length ∧ iv = .int .i64 (j : Int) ∧ Hid (AckS w wr v gv lv a c n g hi l (keptL r hi t d (l.take j)) (gotL r (l.take j)) (lostL r hi t d (l.take j)))) (fun _ _ iv _ => l.length - (intOf iv).toNat)
    case atStart => exact ⟨0, _, Nat.zero_le _, rfl, SS⟩
    case round =>
      obtain ⟨j, v, hj, rfl, HS⟩ := hrel
      clear SS
      obtain ⟨av, cv, hv⟩ := OwnPk.shape HS.out.k
      subst hv
      obtain ⟨x0, x1, x2⟩ := HS.out.x
      by_cases hlt : j < l.length
      case neg =>
        have hlt' : ¬ ((j : Int) < (l.length : Int)) := by omega
        have hjl : j = l.length := by omega
        have HJ := Lib.hid hjl
        clear hjl
        have HZ := HS
        rw [show (keptL r hi t d (l.take j)).length = (keptL r hi t d l).length by rw [HJ.out, List.take_length]] at HZ
        have HE : Hid (AckS w wr (.slice av (keptL r hi t d l).length cv) u12 u13 a c n g hi l (keptL r hi t d l) (gotL r l) (lostL r hi t d l)) := Lib.hid (by have h := HZ.out; rw [HJ.out, List.take_length] at h; exact h)
        clear HZ HS HJ
        obtain ⟨z0, z1, z2⟩ := HE.out.z
        have f0 := HE.out.zf 0
        have f1 := HE.out.zf 1
        have f2 := HE.out.zf 2
        obtain ⟨o0, o1, o2⟩ := HE.out.o
        obtain ⟨m, hm⟩ : ∃ m, (keptL r hi t d l).length = m := ⟨_, rfl⟩
        rw [hm] at HE o1
        have HM := Lib.hid hm
        clear hm
        obtain ⟨qv, qg, ql, q1, q2, q3, d1, d2, d3, d4⟩ := HE.out.dis
        have E := Lib.hid (((HE.out.z.set0 (.int .i64 n)).set1 (.slice av m cv)).set2 (.int .i64 hi))
        have hx : ∀ q, q ≠ w.heap.size + 1 → some q ≠ some (w.heap.size + 1) := fun q h e => h (Option.some.inj e)
        have EK := Lib.hid (((HE.out.k.far (i := 0) (u := .int .i64 n) (by rw [q1]; exact hx _ d2.2.1)).far (i := 1) (u := .slice av m cv) (by rw [q1]; exact hx _ d2.2.1)).far (i := 2) (u := .int .i64 hi) (by rw [q1]; exact hx _ d2.2.1))
        have EG := Lib.hid (((HE.out.g.far (i := 0) (u := .int .i64 n) (by rw [q2]; exact hx _ d3.2.1)).far (i := 1) (u := .slice av m cv) (by rw [q2]; exact hx _ d3.2.1)).far (i := 2) (u := .int .i64 hi) (by rw [q2]; exact hx _ d3.2.1))
        have EL := Lib.hid (((HE.out.l.far (i := 0) (u := .int .i64 n) (by rw [q3]; exact hx _ d4.2.1)).far (i := 1) (u := .slice av m cv) (by rw [q3]; exact hx _ d4.2.1)).far (i := 2) (u := .int .i64 hi) (by rw [q3]; exact hx _ d4.2.1))
        have EB := Lib.hid (((HE.out.bl.setCell (p := ⟨w.heap.size + 1, 0, none⟩) (Nat.le_succ _) (.int .i64 n)).setCell (p := ⟨w.heap.size + 1, 1, none⟩) (Nat.le_succ _) (.slice av m cv)).setCell (p := ⟨w.heap.size + 1, 2, none⟩) (Nat.le_succ _) (.int .i64 hi))
        have ED : Hid (∃ qv qg ql, (Value.slice av m cv).ownBlock = some qv ∧ u12.ownBlock = some qg ∧ u13.ownBlock = some ql ∧ qv ≠ qg ∧ qv ≠ ql ∧ qg ≠ ql) := Lib.hid ⟨qv, qg, ql, q1, q2, q3, d1⟩
        clear hx d1 d2 d3 d4 q1 q2 q3 HE
        go_wp2_with fail
        generalize ((wr.setCell ⟨w.heap.size + 1, 0, none⟩ (.int .i64 n)).setCell ⟨w.heap.size + 1, 1, none⟩ (.slice av m cv)).setCell ⟨w.heap.size + 1, 2, none⟩ (.int .i64 hi) = WF at E EK EG EL EB ⊢
        obtain ⟨k0, k1, k2⟩ := E.out
        refine bodyPost_ret (v := .tuple #[.agg #[.int .i64 n, .slice av m cv, .int .i64 hi], u12, u13]) ?hr rfl ?_
        case hr => rw [results_ctt rfl]; go_simp
        have EA : lack (n, l, g) r t d = ((n, keptL r hi t d l, hi), gotL r l, lostL r hi t d l) := by unfold lack; simp only [HT.out]
        rw [EA]
        exact ⟨_, _, _, rfl, EK.out, EG.out, EL.out, EB.out, ED.out⟩
      have hlt' : (j : Int) < (l.length : Int) := by omega
      obtain ⟨gb, o, rfl, hc⟩ := HC.out (by rintro rfl; simp at hlt)
      obtain ⟨d0, d1, d2⟩ := hc j hlt
      have hgb := World.block_lt_of_cell? w _ d0
      have e0 := (HS.out.bl.cell (p := ⟨gb, o + j * 3, none⟩) hgb).trans d0
      have e1 := (HS.out.bl.cell (p := ⟨gb, o + j * 3 + 1, none⟩) hgb).trans d1
      have e2 := (HS.out.bl.cell (p := ⟨gb, o + j * 3 + 2, none⟩) hgb).trans d2
      have HG := Lib.hid (fun h1 => ack_got (r := r) (top := hi) (t := t) (d := d) hlt h1)
      have HL := Lib.hid (fun h1 h2 => ack_lost (r := r) (top := hi) (t := t) (d := d) hlt h1 h2)
      have HKE := Lib.hid (fun h1 h2 => ack_kept (r := r) (top := hi) (t := t) (d := d) hlt h1 h2)
      obtain ⟨p, hp⟩ : ∃ p, l.getD j pkD = p := ⟨_, rfl⟩
      rw [hp] at e0 e1 e2 HG HL HKE
      clear hp d0 d1 d2 hc
      obtain ⟨x, y, z⟩ := p
      simp only at e0 e1 e2 HG HL HKE
      have HP := Lib.hid (C3.new wr (.int .i64 x) (.int .i64 y) (.int .i64 z) 57)
      have HS1 := Lib.hid (HS.out.alloc (.cells #[.int .i64 x, .int .i64 y, .int .i64 z] 57))
      have HR1 := Lib.hid (Rngs.below HR.out HS1.out.bl)
      go_wp2_with fail
      refine (l2has_any _ r x _ HR1.out hlr).mono ?_
      rintro e w2 ⟨rfl, hb2⟩
      have HP2 := Lib.hid (HP.out.below hb2)
      have HS2 := Lib.hid (HS1.out.below hb2)
      clear hb2 x0 x1 x2 e0 e1 e2 HP HS1 HR1 HS
      obtain ⟨x0, x1, x2⟩ := HS2.out.x
      obtain ⟨e0, e1, e2⟩ := HP2.out
      obtain ⟨o0, o1, o2⟩ := HS2.out.o
      have of1 := HS2.out.of 1
      have hwj : IntKind.i64.wrap ((j : Int) + 1) = ((j + 1 : Nat) : Int) := by rw [IntWalk.i64_in _ (by omega)]; omega
      have HBS := Lib.hid HS2.out.bl.size
      cases hh : rhas r x with
      | true =>
        obtain ⟨g1, g2, g3⟩ := HG.out hh
        have HJ := Lib.hid (And.intro g1 (And.intro g2 g3))
        clear g1 g2 g3 hh
        obtain ⟨gs, hgs⟩ : ∃ gs, gotL r (l.take j) = gs := ⟨_, rfl⟩
        rw [hgs] at HS2 HJ
        have HGL : Hid (gs.length ≤ 1000) := Lib.hid (by rw [← hgs]; unfold gotL; rw [List.length_map]; exact Nat.le_trans (List.length_filter_le _ _) (by rw [List.length_take]; omega))
        clear hgs
        go_wp2_with (at_builtin; refine wpList_app_int _ rfl _ _ rfl w.heap.size _ gs rfl HS2.out.g _ _ _ rfl (by simp) ?c1 ?c2 ?_)
        case c1 => have := HGL.out; omega
        case c2 => exact HBS.out
        intro v' w4 ho hgr hbk
        have HS4 := Lib.hid (HS2.out.addG _ ho hgr hbk)
        clear ho hgr hbk x0 x1 x2 e0 e1 e2 o0 o1 o2 of1
        go_wp2_with fail
        go_roundw
        case rel => exact ⟨j + 1, _, hlt, by go_num, by rw [HJ.out.1, HJ.out.2.1, HJ.out.2.2]; exact HS4⟩
        case measure => simp [intOf]; omega
      | false =>
        by_cases k1 : x < hi
        case neg =>
          have q1 : decide (x < hi) = false := decide_eq_false k1
          have HJ := Lib.hid (HKE.out hh (fun h => k1 h.1))
          clear hh k1
          clear HG HL HKE
          obtain ⟨ks, hks⟩ : ∃ ks, keptL r hi t d (l.take j) = ks := ⟨_, rfl⟩
          rw [hks] at HS2 HJ o1
          have HKL : Hid (ks.length ≤ 1000) := Lib.hid (by rw [← hks]; unfold keptL; exact Nat.le_trans (List.length_filter_le _ _) (by rw [List.length_take]; omega))
          clear hks
          have HA := Lib.hid (HS2.out.alloc (.cells #[.int .i64 x, .int .i64 y, .int .i64 z] 57))
          have OA := Lib.hid HA.out.k
          have SA : Hid (SrcP (w2.alloc (.cells #[.int .i64 x, .int .i64 y, .int .i64 z] 57)) (.slice (some ⟨w2.heap.size, 0, none⟩) 1 1) [(x, y, z)]) := Lib.hid (SrcP.new _ (x, y, z) _)
          go_wp2_with (at_builtin; refine wpList_app_pk _ rfl _ _ rfl w.heap.size _ ks [(x, y, z)] rfl OA.out _ rfl SA.out ?c1 ?c2 ?_)
          case c1 => have := HKL.out; simp; omega
          case c2 => have := HBS.out; simp; omega
          intro aa nn cc w3 hO hnn hg hgg hnil
          have hnn' : nn = ks.length + 1 := by have h := hnn.out; simpa using h
          subst hnn'
          have HP3 := Lib.hid (HA.out.preK hg)
          have HS4 := Lib.hid (HA.out.addK hO hg (by simpa using hgg))
          clear hO hnn hg hgg hnil x0 x1 x2 e0 e1 e2 o0 o1 o2 of1 HA OA SA
          obtain ⟨o0, o1, o2⟩ := HP3.out.1
          have of1 := HP3.out.2 1
          go_wp2_with fail
          go_roundw
          case rel => exact ⟨j + 1, _, hlt, by go_num, by rw [HJ.out.1, HJ.out.2.1, HJ.out.2.2]; exact HS4⟩
          case measure => simp [intOf]; omega
        have q1 : decide (x < hi) = true := decide_eq_true k1
        by_cases k2 : x ≤ hi - 3
        case pos =>
          have q2 : decide (x ≤ hi - 3) = true := decide_eq_true k2
          have HJ := Lib.hid (HL.out hh ⟨k1, .inl k2⟩)
          clear hh k1 k2
          clear HG HL HKE
          obtain ⟨ls, hls⟩ : ∃ ls, lostL r hi t d (l.take j) = ls := ⟨_, rfl⟩
          rw [hls] at HS2 HJ
          have HLL : Hid (ls.length ≤ 1000) := Lib.hid (by rw [← hls]; unfold lostL; rw [List.length_map]; exact Nat.le_trans (List.length_filter_le _ _) (by rw [List.length_take]; omega))
          clear hls
          go_wp2_with (at_builtin; refine wpList_app_int _ rfl _ _ rfl w.heap.size _ ls rfl HS2.out.l _ _ _ rfl (by simp) ?c1 ?c2 ?_)
          case c1 => have := HLL.out; omega
          case c2 => exact HBS.out
          intro v' w4 ho hgr hbk
          have HS4 := Lib.hid (HS2.out.addL _ ho hgr hbk)
          clear ho hgr hbk x0 x1 x2 e0 e1 e2 o0 o1 o2 of1
          go_wp2_with fail
          go_roundw
          case rel => exact ⟨j + 1, _, hlt, by go_num, by rw [HJ.out.1, HJ.out.2.1, HJ.out.2.2]; exact HS4⟩
          case measure => simp [intOf]; omega
        have q2 : decide (x ≤ hi - 3) = false := decide_eq_false k2
        by_cases k3 : y ≤ t - d
        case pos =>
          have q3 : decide (y ≤ t - d) = true := decide_eq_true k3
          have HJ := Lib.hid (HL.out hh ⟨k1, .inr k3⟩)
          clear hh k1 k2 k3
          clear HG HL HKE
          obtain ⟨ls, hls⟩ : ∃ ls, lostL r hi t d (l.take j) = ls := ⟨_, rfl⟩
          rw [hls] at HS2 HJ
          have HLL : Hid (ls.length ≤ 1000) := Lib.hid (by rw [← hls]; unfold lostL; rw [List.length_map]; exact Nat.le_trans (List.length_filter_le _ _) (by rw [List.length_take]; omega))
          clear hls
          go_wp2_with (at_builtin; refine wpList_app_int _ rfl _ _ rfl w.heap.size _ ls rfl HS2.out.l _ _ _ rfl (by simp) ?c1 ?c2 ?_)
          case c1 => have := HLL.out; omega
          case c2 => exact HBS.out
          intro v' w4 ho hgr hbk
          have HS4 := Lib.hid (HS2.out.addL _ ho hgr hbk)
          clear ho hgr hbk x0 x1 x2 e0 e1 e2 o0 o1 o2 of1
          go_wp2_with fail
          go_roundw
          case rel => exact ⟨j + 1, _, hlt, by go_num, by rw [HJ.out.1, HJ.out.2.1, HJ.out.2.2]; exact HS4⟩
          case measure => simp [intOf]; omega
        have q3 : decide (y ≤ t - d) = false := decide_eq_false k3
        have HJ := Lib.hid (HKE.out hh (fun h => h.2.elim k2 k3))
        clear hh k1 k2 k3
        clear HG HL HKE
        obtain ⟨ks, hks⟩ : ∃ ks, keptL r hi t d (l.take j) = ks := ⟨_, rfl⟩
        rw [hks] at HS2 HJ o1
        have HKL : Hid (ks.length ≤ 1000) := Lib.hid (by rw [← hks]; unfold keptL; exact Nat.le_trans (List.length_filter_le _ _) (by rw [List.length_take]; omega))
        clear hks
        have HA := Lib.hid (HS2.out.alloc (.cells #[.int .i64 x, .int .i64 y, .int .i64 z] 57))
        have OA := Lib.hid HA.out.k
        have SA : Hid (SrcP (w2.alloc (.cells #[.int .i64 x, .int .i64 y, .int .i64 z] 57)) (.slice (some ⟨w2.heap.size, 0, none⟩) 1 1) [(x, y, z)]) := Lib.hid (SrcP.new _ (x, y, z) _)
        go_wp2_with (at_builtin; refine wpList_app_pk _ rfl _ _ rfl w.heap.size _ ks [(x, y, z)] rfl OA.out _ rfl SA.out ?c1 ?c2 ?_)
        case c1 => have := HKL.out; simp; omega
        case c2 => have := HBS.out; simp; omega
        intro aa nn cc w3 hO hnn hg hgg hnil
        have hnn' : nn = ks.length + 1 := by have h := hnn.out; simpa using h
        subst hnn'
        have HP3 := Lib.hid (HA.out.preK hg)
        have HS4 := Lib.hid (HA.out.addK hO hg (by simpa using hgg))
        clear hO hnn hg hgg hnil x0 x1 x2 e0 e1 e2 o0 o1 o2 of1 HA OA SA
        obtain ⟨o0, o1, o2⟩ := HP3.out.1
        have of1 := HP3.out.2 1
        go_wp2_with fail
        go_roundw
        case rel => exact ⟨j + 1, _, hlt, by go_num, by rw [HJ.out.1, HJ.out.2.1, HJ.out.2.2]; exact HS4⟩
        case measure => simp [intOf]; omega
  have hm' : (g < hi) = False := eq_false hm
  have HGT := Lib.hid (show g = top by have := HMX.out; omega)
  have SS := Lib.hid ((ack_start w a c n g top l).below (Below.refl _ _).drew)
  clear HMX
  go_wp2_with fail
  go_region
  go_wp2_with fail
  have hgt := HGT.out
  subst hgt
  clear HGT
  clear y0 y1 y2 o0 o1 o2 of2 c1 hm hm'
  go_loopw [12, 13, 14] (fun gv lv iv wr => ∃ (j : Nat) (v : Value), j ≤ l.length ∧ iv = .int .i64 (j : Int) ∧ Hid (AckS w wr v gv lv a c n g g l (keptL r g t d (l.take j)) (gotL r (l.take j)) (lostL r g t d (l.take j)))) (fun _ _ iv _ => l.length - (intOf iv).toNat)
  case atStart => exact ⟨0, _, Nat.zero_le _, rfl, SS⟩
  case round =>
    obtain ⟨j, v, hj, rfl, HS⟩ := hrel
    clear SS
    obtain ⟨av, cv, hv⟩ := OwnPk.shape HS.out.k
    subst hv
    obtain ⟨x0, x1, x2⟩ := HS.out.x
    by_cases hlt : j < l.length
    case neg =>
      have hlt' : ¬ ((j : Int) < (l.length : Int)) := by omega
      have hjl : j = l.length := by omega
      have HJ := Lib.hid hjl
      clear hjl
      have HZ := HS
      rw [show (keptL r g t d (l.take j)).length = (keptL r g t d l).length by rw [HJ.out, List.take_length]] at HZ
      have HE : Hid (AckS w wr (.slice av (keptL r g t d l).length cv) u12 u13 a c n g g l (keptL r g t d l) (gotL r l) (lostL r g t d l)) := Lib.hid (by have h := HZ.out; rw [HJ.out, List.take_length] at h; exact h)
      clear HZ HS HJ
      obtain ⟨z0, z1, z2⟩ := HE.out.z
      have f0 := HE.out.zf 0
      have f1 := HE.out.zf 1
      have f2 := HE.out.zf 2
      obtain ⟨o0, o1, o2⟩ := HE.out.o
      obtain ⟨m, hm⟩ : ∃ m, (keptL r g t d l).length = m := ⟨_, rfl⟩
      rw [hm] at HE o1
      have HM := Lib.hid hm
      clear hm
      obtain ⟨qv, qg, ql, q1, q2, q3, d1, d2, d3, d4⟩ := HE.out.dis
      have E := Lib.hid (((HE.out.z.set0 (.int .i64 n)).set1 (.slice av m cv)).set2 (.int .i64 g))
      have hx : ∀ q, q ≠ w.heap.size + 1 → some q ≠ some (w.heap.size + 1) := fun q h e => h (Option.some.inj e)
      have EK := Lib.hid (((HE.out.k.far (i := 0) (u := .int .i64 n) (by rw [q1]; exact hx _ d2.2.1)).far (i := 1) (u := .slice av m cv) (by rw [q1]; exact hx _ d2.2.1)).far (i := 2) (u := .int .i64 g) (by rw [q1]; exact hx _ d2.2.1))
      have EG := Lib.hid (((HE.out.g.far (i := 0) (u := .int .i64 n) (by rw [q2]; exact hx _ d3.2.1)).far (i := 1) (u := .slice av m cv) (by rw [q2]; exact hx _ d3.2.1)).far (i := 2) (u := .int .i64 g) (by rw [q2]; exact hx _ d3.2.1))
      have EL := Lib.hid (((HE.out.l.far (i := 0) (u := .int .i64 n) (by rw [q3]; exact hx _ d4.2.1)).far (i := 1) (u := .slice av m cv) (by rw [q3]; exact hx _ d4.2.1)).far (i := 2) (u := .int .i64 g) (by rw [q3]; exact hx _ d4.2.1))
      have EB := Lib.hid (((HE.out.bl.setCell (p := ⟨w.heap.size + 1, 0, none⟩) (Nat.le_succ _) (.int .i64 n)).setCell (p := ⟨w.heap.size + 1, 1, none⟩) (Nat.le_succ _) (.slice av m cv)).setCell (p := ⟨w.heap.size + 1, 2, none⟩) (Nat.le_succ _) (.int .i64 g))
      have ED : Hid (∃ qv qg ql, (Value.slice av m cv).ownBlock = some qv ∧ u12.ownBlock = some qg ∧ u13.ownBlock = some ql ∧ qv ≠ qg ∧ qv ≠ ql ∧ qg ≠ ql) := Lib.hid ⟨qv, qg, ql, q1, q2, q3, d1⟩
      clear hx d1 d2 d3 d4 q1 q2 q3 HE
      go_wp2_with fail
      generalize ((wr.setCell ⟨w.heap.size + 1, 0, none⟩ (.int .i64 n)).setCell ⟨w.heap.size + 1, 1, none⟩ (.slice av m cv)).setCell ⟨w.heap.size + 1, 2, none⟩ (.int .i64 g) = WF at E EK EG EL EB ⊢
      obtain ⟨k0, k1, k2⟩ := E.out
      refine bodyPost_ret (v := .tuple #[.agg #[.int .i64 n, .slice av m cv, .int .i64 g], u12, u13]) ?hr rfl ?_
      case hr => rw [results_ctt rfl]; go_simp
      have EA : lack (n, l, g) r t d = ((n, keptL r g t d l, g), gotL r l, lostL r g t d l) := by unfold lack; simp only [HT.out]
      rw [EA]
      exact ⟨_, _, _, rfl, EK.out, EG.out, EL.out, EB.out, ED.out⟩
    have hlt' : (j : Int) < (l.length : Int) := by omega
    obtain ⟨gb, o, rfl, hc⟩ := HC.out (by rintro rfl; simp at hlt)
    obtain ⟨d0, d1, d2⟩ := hc j hlt
    have hgb := World.block_lt_of_cell? w _ d0
    have e0 := (HS.out.bl.cell (p := ⟨gb, o + j * 3, none⟩) hgb).trans d0
    have e1 := (HS.out.bl.cell (p := ⟨gb, o + j * 3 + 1, none⟩) hgb).trans d1
    have e2 := (HS.out.bl.cell (p := ⟨gb, o + j * 3 + 2, none⟩) hgb).trans d2
    have HG := Lib.hid (fun h1 => ack_got (r := r) (top := g) (t := t) (d := d) hlt h1)
    have HL := Lib.hid (fun h1 h2 => ack_lost (r := r) (top := g) (t := t) (d := d) hlt h1 h2)
    have HKE := Lib.hid (fun h1 h2 => ack_kept (r := r) (top := g) (t := t) (d := d) hlt h1 h2)
    obtain ⟨p, hp⟩ : ∃ p, l.getD j pkD = p := ⟨_, rfl⟩
    rw [hp] at e0 e1 e2 HG HL HKE
    clear hp d0 d1 d2 hc
    obtain ⟨x, y, z⟩ := p
    simp only at e0 e1 e2 HG HL HKE
    have HP := Lib.hid (C3.new wr (.int .i64 x) (.int .i64 y) (.int .i64 z) 57)
    have HS1 := Lib.hid (HS.out.alloc (.cells #[.int .i64 x, .int .i64 y, .int .i64 z] 57))
    have HR1 := Lib.hid (Rngs.below HR.out HS1.out.bl)
    go_wp2_with fail
    refine (l2has_any _ r x _ HR1.out hlr).mono ?_
    rintro e w2 ⟨rfl, hb2⟩
    have HP2 := Lib.hid (HP.out.below hb2)
    have HS2 := Lib.hid (HS1.out.below hb2)
    clear hb2 x0 x1 x2 e0 e1 e2 HP HS1 HR1 HS
    obtain ⟨x0, x1, x2⟩ := HS2.out.x
    obtain ⟨e0, e1, e2⟩ := HP2.out
    obtain ⟨o0, o1, o2⟩ := HS2.out.o
    have of1 := HS2.out.of 1
    have hwj : IntKind.i64.wrap ((j : Int) + 1) = ((j + 1 : Nat) : Int) := by rw [IntWalk.i64_in _ (by omega)]; omega
    have HBS := Lib.hid HS2.out.bl.size
    cases hh : rhas r x with
    | true =>
      obtain ⟨g1, g2, g3⟩ := HG.out hh
      have HJ := Lib.hid (And.intro g1 (And.intro g2 g3))
      clear g1 g2 g3 hh
      obtain ⟨gs, hgs⟩ : ∃ gs, gotL r (l.take j) = gs := ⟨_, rfl⟩
      rw [hgs] at HS2 HJ
      have HGL : Hid (gs.length ≤ 1000) := Lib.hid (by rw [← hgs]; unfold gotL; rw [List.length_map]; exact Nat.le_trans (List.length_filter_le _ _) (by rw [List.length_take]; omega))
      clear hgs
      go_wp2_with (at_builtin; refine wpList_app_int _ rfl _ _ rfl w.heap.size _ gs rfl HS2.out.g _ _ _ rfl (by simp) ?c1 ?c2 ?_)
      case c1 => have := HGL.out; omega
      case c2 => exact HBS.out
      intro v' w4 ho hgr hbk
      have HS4 := Lib.hid (HS2.out.addG _ ho hgr hbk)
      clear ho hgr hbk x0 x1 x2 e0 e1 e2 o0 o1 o2 of1
      go_wp2_with fail
      go_roundw
      case rel => exact ⟨j + 1, _, hlt, by go_num, by rw [HJ.out.1, HJ.out.2.1, HJ.out.2.2]; exact HS4⟩
      case measure => simp [intOf]; omega
    | false =>
      by_cases k1 : x < g
      case neg =>
        have q1 : decide (x < g) = false := decide_eq_false k1
        have HJ := Lib.hid (HKE.out hh (fun h => k1 h.1))
        clear hh k1
        clear HG HL HKE
        obtain ⟨ks, hks⟩ : ∃ ks, keptL r g t d (l.take j) = ks := ⟨_, rfl⟩
        rw [hks] at HS2 HJ o1
        have HKL : Hid (ks.length ≤ 1000) := Lib.hid (by rw [← hks]; unfold keptL; exact Nat.le_trans (List.length_filter_le _ _) (by rw [List.length_take]; omega))
        clear hks
        have HA := Lib.hid (HS2.out.alloc (.cells #[.int .i64 x, .int .i64 y, .int .i64 z] 57))
        have OA := Lib.hid HA.out.k
        have SA : Hid (SrcP (w2.alloc (.cells #[.int .i64 x, .int .i64 y, .int .i64 z] 57)) (.slice (some ⟨w2.heap.size, 0, none⟩) 1 1) [(x, y, z)]) := Lib.hid (SrcP.new _ (x, y, z) _)
        go_wp2_with (at_builtin; refine wpList_app_pk _ rfl _ _ rfl w.heap.size _ ks [(x, y, z)] rfl OA.out _ rfl SA.out ?c1 ?c2 ?_)
        case c1 => have := HKL.out; simp; omega
        case c2 => have := HBS.out; simp; omega
        intro aa nn cc w3 hO hnn hg hgg hnil
        have hnn' : nn = ks.length + 1 := by have h := hnn.out; simpa using h
        subst hnn'
        have HP3 := Lib.hid (HA.out.preK hg)
        have HS4 := Lib.hid (HA.out.addK hO hg (by simpa using hgg))
        clear hO hnn hg hgg hnil x0 x1 x2 e0 e1 e2 o0 o1 o2 of1 HA OA SA
        obtain ⟨o0, o1, o2⟩ := HP3.out.1
        have of1 := HP3.out.2 1
        go_wp2_with fail
        go_roundw
        case rel => exact ⟨j + 1, _, hlt, by go_num, by rw [HJ.out.1, HJ.out.2.1, HJ.out.2.2]; exact HS4⟩
        case measure => simp [intOf]; omega
      have q1 : decide (x < g) = true := decide_eq_true k1
      by_cases k2 : x ≤ g - 3
      case pos =>
        have q2 : decide (x ≤ g - 3) = true := decide_eq_true k2
        have HJ := Lib.hid (HL.out hh ⟨k1, .inl k2⟩)
        clear hh k1 k2
        clear HG HL HKE
        obtain ⟨ls, hls⟩ : ∃ ls, lostL r g t d (l.take j) = ls := ⟨_, rfl⟩
        rw [hls] at HS2 HJ
        have HLL : Hid (ls.length ≤ 1000) := Lib.hid (by rw [← hls]; unfold lostL; rw [List.length_map]; exact Nat.le_trans (List.length_filter_le _ _) (by rw [List.length_take]; omega))
        clear hls
        go_wp2_with (at_builtin; refine wpList_app_int _ rfl _ _ rfl w.heap.size _ ls rfl HS2.out.l _ _ _ rfl (by simp) ?c1 ?c2 ?_)
        case c1 => have := HLL.out; omega
        case c2 => exact HBS.out
        intro v' w4 ho hgr hbk
        have HS4 := Lib.hid (HS2.out.addL _ ho hgr hbk)
        clear ho hgr hbk x0 x1 x2 e0 e1 e2 o0 o1 o2 of1
        go_wp2_with fail
        go_roundw
        case rel => exact ⟨j + 1, _, hlt, by go_num, by rw [HJ.out.1, HJ.out.2.1, HJ.out.2.2]; exact HS4⟩
        case measure => simp [intOf]; omega
      have q2 : decide (x ≤ g - 3) = false := decide_eq_false k2
      by_cases k3 : y ≤ t - d
      case pos =>
        have q3 : decide (y ≤ t - d) = true := decide_eq_true k3
        have HJ := Lib.hid (HL.out hh ⟨k1, .inr k3⟩)
        clear hh k1 k2 k3
        clear HG HL HKE
        obtain ⟨ls, hls⟩ : ∃ ls, lostL r g t d (l.take j) = ls := ⟨_, rfl⟩
        rw [hls] at HS2 HJ
        have HLL : Hid (ls.length ≤ 1000) := Lib.hid (by rw [← hls]; unfold lostL; rw [List.length_map]; exact Nat.le_trans (List.length_filter_le _ _) (by rw [List.length_take]; omega))
        clear hls
        go_wp2_with (at_builtin; refine wpList_app_int _ rfl _ _ rfl w.heap.size _ ls rfl HS2.out.l _ _ _ rfl (by simp) ?c1 ?c2 ?_)
        case c1 => have := HLL.out; omega
        case c2 => exact HBS.out
        intro v' w4 ho hgr hbk
        have HS4 := Lib.hid (HS2.out.addL _ ho hgr hbk)
        clear ho hgr hbk x0 x1 x2 e0 e1 e2 o0 o1 o2 of1
        go_wp2_with fail
        go_roundw
        case rel => exact ⟨j + 1, _, hlt, by go_num, by rw [HJ.out.1, HJ.out.2.1, HJ.out.2.2]; exact HS4⟩
        case measure => simp [intOf]; omega
      have q3 : decide (y ≤ t - d) = false := decide_eq_false k3
      have HJ := Lib.hid (HKE.out hh (fun h => h.2.elim k2 k3))
      clear hh k1 k2 k3
      clear HG HL HKE
      obtain ⟨ks, hks⟩ : ∃ ks, keptL r g t d (l.take j) = ks := ⟨_, rfl⟩
      rw [hks] at HS2 HJ o1
      have HKL : Hid (ks.length ≤ 1000) := Lib.hid (by rw [← hks]; unfold keptL; exact Nat.le_trans (List.length_filter_le _ _) (by rw [List.length_take]; omega))
      clear hks
      have HA := Lib.hid (HS2.out.alloc (.cells #[.int .i64 x, .int .i64 y, .int .i64 z] 57))
      have OA := Lib.hid HA.out.k
      have SA : Hid (SrcP (w2.alloc (.cells #[.int .i64 x, .int .i64 y, .int .i64 z] 57)) (.slice (some ⟨w2.heap.size, 0, none⟩) 1 1) [(x, y, z)]) := Lib.hid (SrcP.new _ (x, y, z) _)
      go_wp2_with (at_builtin; refine wpList_app_pk _ rfl _ _ rfl w.heap.size _ ks [(x, y, z)] rfl OA.out _ rfl SA.out ?c1 ?c2 ?_)
      case c1 => have := HKL.out; simp; omega
      case c2 => have := HBS.out; simp; omega
      intro aa nn cc w3 hO hnn hg hgg hnil
      have hnn' : nn = ks.length + 1 := by have h := hnn.out; simpa using h
      subst hnn'
      have HP3 := Lib.hid (HA.out.preK hg)
      have HS4 := Lib.hid (HA.out.addK hO hg (by simpa using hgg))
      clear hO hnn hg hgg hnil x0 x1 x2 e0 e1 e2 o0 o1 o2 of1 HA OA SA
      obtain ⟨o0, o1, o2⟩ := HP3.out.1
      have of1 := HP3.out.2 1
      go_wp2_with fail
      go_roundw
      case rel => exact ⟨j + 1, _, hlt, by go_num, by rw [HJ.out.1, HJ.out.2.1, HJ.out.2.2]; exact HS4⟩
      case measure => simp [intOf]; omega


end Go.Proofs.Ytccolpaenmebeaa
