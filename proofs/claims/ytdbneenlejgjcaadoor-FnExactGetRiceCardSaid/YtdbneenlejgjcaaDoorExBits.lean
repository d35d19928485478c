/-
  The walk of the exact law on BitsOf: it returns true and writes nothing that was there. For every list.
-/
import Derived.Test.YtdbneenlejgjcaaDoorBits
import Derived.Test.YtdbneenlejgjcaaDoorMem
import Derived.Test.YtdbneenlejgjcaaDoorNum
namespace Go.Proofs.YtdbneenlejgjcaaDoor
open Go.RowKit

def BoL (xs : List Int) : List Int := if valB xs then xs else []
theorem BoL_len (xs : List Int) : (BoL xs).length ≤ 2048 := by
  unfold BoL
  split
  · rename_i h; unfold valB at h; rw [Bool.and_eq_true] at h; simpa using h.1
  · simp
theorem eqBits_same (xs : List Int) (ao bo : Option Addr) (len cap cap' : Nat) (c : Int) (w : World) (hx : Ints w ao len xs) (hy : Ints w bo len xs) (hlen : len ≤ 4194304) :
    Calls Tryd.prog 31 #[.agg #[.slice ao len cap, .int .i64 c], .agg #[.slice bo len cap', .int .i64 c]] w fun e w' => e = .returned (.bool true) ∧ w.grownBy w' none :=
  (eqBits_any xs xs ao bo len cap len cap' c c w hx hy hlen).mono fun e w' ⟨he, hg⟩ => ⟨by rw [he]; simp, hg⟩
end Go.Proofs.YtdbneenlejgjcaaDoor
