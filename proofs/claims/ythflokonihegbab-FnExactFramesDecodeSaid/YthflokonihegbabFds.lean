/- FramesDecode's answer. -/
import Derived.Test.YthflokonihegbabOwnFs
namespace Go.Proofs.Ythflokonihegbab
open Go.RowKit
def FdsPost (w : World) (o : Option (List Fr)) (e : Ending) (w' : World) : Prop := ∃ (v : Value) (rows : List FrR), e = .returned (.tuple #[v, .bool o.isSome]) ∧ rows.map Prod.fst = o.getD [] ∧ Below w.heap.size w w' ∧ OwnFs w' w.heap.size v rows
end Go.Proofs.Ythflokonihegbab
