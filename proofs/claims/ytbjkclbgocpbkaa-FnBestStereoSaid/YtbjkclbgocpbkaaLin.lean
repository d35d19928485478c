/-
  Structs of predictors: what is compared, marked, measured and copied. The lists are at most 4194304 numbers long.
-/
import Derived.Test.YtbjkclbgocpbkaaMem
namespace Go.Proofs.Ytbjkclbgocpbkaa
open Go.RowKit

/-- A call gives back a new predictor. -/
def MadeLinear (xs : List Int) (len : Nat) (c : Int) (w : World) (e : Ending) (w' : World) : Prop :=
  ∃ v, e = .returned (.agg #[v, .int .i64 c]) ∧ Owns w' w.heap.size v len xs ∧ w.grownBy w' none

end Go.Proofs.Ytbjkclbgocpbkaa
