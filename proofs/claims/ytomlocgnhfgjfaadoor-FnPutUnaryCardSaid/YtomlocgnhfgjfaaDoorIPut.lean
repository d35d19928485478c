/-
  PutBits of the program: what it gives for all arguments.
-/
import Derived.Test.YtomlocgnhfgjfaaDoorApp
namespace Go.Proofs.YtomlocgnhfgjfaaDoor
open Go.RowKit


end Go.Proofs.YtomlocgnhfgjfaaDoor
