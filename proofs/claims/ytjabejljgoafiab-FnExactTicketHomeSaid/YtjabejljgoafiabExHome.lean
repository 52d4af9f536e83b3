/- The exact law of TicketHome: toTicket, the walk. -/
import Derived.Test.YtjabejljgoafiabHome
namespace Go.Proofs.Ytjabejljgoafiab
open Go.RowKit
set_option linter.unusedVariables false
set_option linter.unusedSimpArgs false

theorem results_cell_one {fn : Func} {p : Tmp} {ty : TypeId} (h : fn.results = #[.cell p ty]) (tmps : Array Value) (P : Program) (w : World) :
    (results fn tmps).run P w = ((asAddr (tmps.getD p undef)).run P w).andThen fun a w₁ => (loadVar ty a).run P w₁ := by
  simp only [results, h]
  simp [Sem.run_bind, Result.andThen]
def TkB (w : World) (x y : Int) (e : Ending) (w' : World) : Prop := e = .returned (.agg #[.int .i64 x, .int .i64 y]) ∧ Below w.heap.size w w'
set_option maxRecDepth 100000 in
set_option maxHeartbeats 1000000 in
theorem totk_any (x y : Int) (w : World) : Calls Try.prog 18 #[.agg #[.int .i64 x, .int .i64 y]] w (TkB w x y) := by
  go_enter Try.func18, Try.ntmps18
  go_wp2_with fail
  refine bodyPost_ret (v := .agg #[.int .i64 x, .int .i64 y]) ?hr rfl ?_
  case hr => rw [results_cell_one rfl]; go_simp
  exact ⟨rfl, (((Below.refl _ _).alloc (Nat.le_refl _) _).alloc (by simp) _).alloc (by simp; omega) _⟩

set_option maxRecDepth 100000 in
set_option maxHeartbeats 2000000 in
theorem exhome_walk (n x y : Int) (w : World) : Calls Try.prog 6 #[.int .i64 n, .agg #[.int .i64 x, .int .i64 y]] w fun e w' => e = .returned (.bool true) ∧ Below w.heap.size w w' := by
  have B1 : Below w.heap.size w (w.alloc (.cells #[.int .i64 x, .int .i64 y] 38)) := (Below.refl _ _).alloc (Nat.le_refl _) _
  obtain ⟨c0, c1⟩ : (w.alloc (.cells #[.int .i64 x, .int .i64 y] 38)).cell? ⟨w.heap.size, 0, none⟩ = some (.int .i64 x) ∧ (w.alloc (.cells #[.int .i64 x, .int .i64 y] 38)).cell? ⟨w.heap.size, 1, none⟩ = some (.int .i64 y) := by
    constructor <;> (rw [World.cell?_alloc_mark]; rfl)
  go_enter Try.func6, Try.ntmps6
  go_wp2_with fail
  refine (totk_any x y _).mono ?_
  rintro e w2 ⟨rfl, hb2⟩
  have B2 := B1.trans (hb2.mono B1.size)
  have d2 := (hb2.cell (World.block_lt_of_cell? _ _ c0)).trans c0
  have e2 := (hb2.cell (World.block_lt_of_cell? _ _ c1)).trans c1
  clear hb2 B1 c0 c1
  go_wp2_with fail
  refine (shome_any n x y _).mono ?_
  rintro e w3 ⟨rfl, hb3⟩
  have B3 := B2.trans (hb3.mono B2.size)
  have d3 := (hb3.cell (World.block_lt_of_cell? _ _ d2)).trans d2
  have e3 := (hb3.cell (World.block_lt_of_cell? _ _ e2)).trans e2
  clear hb3 B2 d2 e2
  go_wp2_with fail
  refine (totk_any x y _).mono ?_
  rintro e w4 ⟨rfl, hb4⟩
  have B4 := B3.trans (hb4.mono B3.size)
  have d4 := (hb4.cell (World.block_lt_of_cell? _ _ d3)).trans d3
  have e4 := (hb4.cell (World.block_lt_of_cell? _ _ e3)).trans e3
  clear hb4 B3 d3 e3
  go_wp2_with fail
  refine (ihome_any n x y _).mono ?_
  rintro e w5 ⟨rfl, hb5⟩
  have B5 := B4.trans (hb5.mono B4.size)
  have d5 := (hb5.cell (World.block_lt_of_cell? _ _ d4)).trans d4
  have e5 := (hb5.cell (World.block_lt_of_cell? _ _ e4)).trans e4
  clear hb5 B4 d4 e4
  go_wp2_with fail
  go_ret
  exact ⟨rfl, B5⟩

end Go.Proofs.Ytjabejljgoafiab
