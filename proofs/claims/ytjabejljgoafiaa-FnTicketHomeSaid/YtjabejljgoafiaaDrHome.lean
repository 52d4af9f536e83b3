/- The drawn arguments of TicketHome; the law FnTicketHome: the walk. -/
import Derived.Test.YtjabejljgoafiaaDrTry
import Derived.Test.YtjabejljgoafiaaHome
namespace Go.Proofs.Ytjabejljgoafiaa
open Go.RowKit
set_option linter.unusedVariables false
set_option linter.unusedSimpArgs false

theorem results_s_c {fn : Func} {p q : Tmp} {ty : TypeId} (h : fn.results = #[.tmp q, .cell p ty]) (tmps : Array Value) (P : Program) (w : World) :
    (results fn tmps).run P w = ((asAddr (tmps.getD p undef)).run P w).andThen fun a w₁ => ((loadVar ty a).run P w₁).andThen fun v w₂ => .ok (.tuple #[tmps.getD q undef, v]) w₂ := by
  simp only [results, h]
  simp [Sem.run_bind, Result.andThen]
def GotHome (w : World) (e : Ending) (w' : World) : Prop :=
  ∃ n x y : Int, e = .returned (.tuple #[.int .i64 n, .agg #[.int .i64 x, .int .i64 y]]) ∧ (-1 ≤ n ∧ n ≤ 6) ∧ Below w.heap.size w w'
set_option maxRecDepth 100000 in
set_option maxHeartbeats 4000000 in
theorem drhome_any (a : Option Addr) (len cap : Nat) (zs : List Int) (w : World) (h : IsRow .u8 w a len cap zs) :
    Calls Try.prog 24 #[.slice a len cap] w (GotHome w) := by
  have U0 : Below w.heap.size w (w.alloc (.cells #[.int .i64 0, .int .i64 0] 27)) := (Below.refl _ _).alloc (Nat.le_refl _) _
  have H := Lib.hid (h.keep (w' := w.alloc (.cells #[.int .i64 0, .int .i64 0] 27)) fun x hx hc i v hv => cell?_alloc_old _ hv)
  have Z0 := Lib.hid (RgV.new w 0 (.int .i64 0) 27)
  have F0 := Lib.hid (Soft.new w #[.int .i64 0, .int .i64 0] 27)
  have hs0 : (w.alloc (.cells #[.int .i64 0, .int .i64 0] 27)).heap.size = w.heap.size + 1 := by simp
  have HS0 := Lib.hid hs0
  have UU := Lib.hid U0
  clear h U0 hs0
  go_enter Try.func24, Try.ntmps24
  go_wp2_with fail
  refine (open_any a len cap zs _ H.out).mono ?_
  rintro e w1 ⟨rfl, hb, hR⟩
  have B1 := Lib.hid (UU.out.trans (hb.mono (by have := HS0.out; omega)))
  have Z1 := Lib.hid (Z0.out.below hb)
  have F1 := Lib.hid (F0.out.below hb Z0.out.lt)
  have RR := Lib.hid hR
  rw [HS0.out] at RR ⊢
  clear hb hR Z0 F0 UU H
  have hne : Hid (some w.heap.size ≠ some (w.heap.size + 1)) := Lib.hid fun e => by have := Option.some.inj e; omega
  have hgr : Hid (∀ j, some (w.heap.size + 1) = some j → w.heap.size ≤ j) := Lib.hid fun j hj => by have := Option.some.inj hj; omega
  go_wp2_with fail
  refine (pick_rdr _ _ _ _ RR.out (by omega) (by omega) (by omega)).mono ?_
  rintro e w2 ⟨p, hp, rfl, hg2, R2⟩
  have B2 := Lib.hid (B1.out.grown hg2 B1.out.size hgr.out)
  have Z2 := Lib.hid (Z1.out.kept hg2 hne.out)
  have F2 := Lib.hid (F1.out.kept hg2 Z1.out.lt hne.out)
  have RR2 := Lib.hid R2
  have hw1 : IntKind.i64.wrap ((p : Int) - 1) = (p : Int) - 1 := IntWalk.i64_in _ (by omega)
  clear hg2 R2 B1 Z1 F1 RR
  go_wp2_with fail
  refine (pick_rdr _ _ _ _ RR2.out (by omega) (by omega) (by omega)).mono ?_
  rintro e w3 ⟨q, hq, rfl, hg3, R3⟩
  have B3 := Lib.hid (B2.out.grown hg3 B2.out.size hgr.out)
  have Z3 := Lib.hid (Z2.out.kept hg3 hne.out)
  have F3 := Lib.hid (F2.out.kept hg3 Z2.out.lt hne.out)
  have RR3 := Lib.hid R3
  have hw2 : IntKind.i64.wrap ((q : Int) - 1) = (q : Int) - 1 := IntWalk.i64_in _ (by omega)
  clear hg3 R3 B2 Z2 F2 RR2
  go_wp2_with fail
  refine (time_any _ _ _ RR3.out (by omega)).mono ?_
  rintro e w4 ⟨t, ht, rfl, hg4, R4⟩
  have B4 := Lib.hid (B3.out.grown hg4 B3.out.size hgr.out)
  have Z4 := Lib.hid (Z3.out.kept hg4 hne.out)
  have F4 := Lib.hid (F3.out.kept hg4 Z3.out.lt hne.out)
  clear hg4 R4 B3 Z3 F3 RR3
  obtain ⟨z0, z1⟩ := Z4.out
  have f0 := F4.out 0
  have f1 := F4.out 1
  have KE := Lib.hid ((Z4.out.set0 ((q : Int) - 1)).set1 (.int .i64 t))
  have BE := Lib.hid ((B4.out.setCell (p := ⟨w.heap.size, 0, none⟩) (Nat.le_refl _) (.int .i64 ((q : Int) - 1))).setCell (p := ⟨w.heap.size, 1, none⟩) (Nat.le_refl _) (.int .i64 t))
  go_wp2_with fail
  generalize ((w4.setCell ⟨w.heap.size, 0, none⟩ (.int .i64 ((q : Int) - 1))).setCell ⟨w.heap.size, 1, none⟩ (.int .i64 t)) = WF at KE BE ⊢
  obtain ⟨k0, k1⟩ := KE.out
  refine bodyPost_ret (v := .tuple #[.int .i64 ((p : Int) - 1), .agg #[.int .i64 ((q : Int) - 1), .int .i64 t]]) ?hr rfl ?_
  case hr => rw [results_s_c rfl]; go_simp
  exact ⟨_, _, _, rfl, by omega, BE.out⟩

end Go.Proofs.Ytjabejljgoafiaa
