/- A region that draws its order, whose own operations only read and whose callees read and make memory: one walk, in the order of the text. The worlds of the walk: whatever leaves W as it was ('Up W'). -/
import Derived.Test.YthdhjjbgegcncaaBase
import Derived.Below
import Derived.Deep.Quiet
import Derived.Deep.QuietTactic
import Derived.BigQuiet
namespace Go.Proofs.Ythdhjjbgegcncaa
open Go.RowKit
set_option linter.unusedVariables false
set_option linter.unusedSimpArgs false

/-- A world in which W stands as it was. -/
structure Up (W : World) where
  w : World
  b : Below W.heap.size W w
instance (W : World) : Nonempty (Up W) := ⟨⟨W, Below.refl _ _⟩⟩
theorem Up.cell {W : World} {p : Addr} {v : Value} (h : W.cell? p = some v) (n : Up W) : n.w.cell? p = some v :=
  (n.b.cell (World.block_lt_of_cell? W _ h)).trans h
theorem up_region {id : Nat} {Q : Exit → Act → World → Prop} {a : Act} {w : World} {l : List Oper} (W : World) (hw : Below W.heap.size W w) (hm : Try.prog.follows .mixedOrders = true) (hB : Region.lexB .any l.toArray = true)
    (h : wpQuiet Try.prog l.toArray (fun w' => ∃ n : Up W, w' = n.w) (fun a' => ∀ w', (∃ n : Up W, w' = n.w) → Q .normal a' w') l a) : (Code.region id l.toArray true).wp Try.prog Q a w :=
  wp_region_quiet (C := fun w' => ∃ n : Up W, w' = n.w) hm hB ⟨⟨_, hw.drew⟩, rfl⟩ (by simpa using h)
/-- A callee that leaves alone what was there, at whatever world of the walk. -/
theorem up_call {W : World} {f : FuncId} {args : Array Value} {v : Value} (h : ∀ w : World, Below W.heap.size W w → Calls Try.prog f args w fun e w' => e = .returned v ∧ Below w.heap.size w w') (n : Up W) :
    Calls Try.prog f args n.w fun e w' => e = .returned v ∧ ∃ m : Up W, w' = m.w :=
  (h n.w n.b).mono fun e w' k => ⟨k.1, ⟨w', n.b.trans (k.2.mono n.b.size)⟩, rfl⟩

end Go.Proofs.Ythdhjjbgegcncaa
