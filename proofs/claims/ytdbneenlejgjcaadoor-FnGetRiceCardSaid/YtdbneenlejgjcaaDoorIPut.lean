/-
  PutBits of the program: what it gives for all arguments.
-/
import Derived.Test.YtdbneenlejgjcaaDoorApp
namespace Go.Proofs.YtdbneenlejgjcaaDoor
open Go.RowKit


end Go.Proofs.YtdbneenlejgjcaaDoor
