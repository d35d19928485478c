/-
  Structs of predictors: what is compared, marked, measured and copied. The lists are at most 4194304 numbers long.
-/
import Derived.Test.YtncbgofcimghnaaMem
namespace Go.Proofs.Ytncbgofcimghnaa
open Go.RowKit

/-- A call gives back a new predictor. -/
def MadeLinear (xs : List Int) (len : Nat) (c : Int) (w : World) (e : Ending) (w' : World) : Prop :=
  ∃ v, e = .returned (.agg #[v, .int .i64 c]) ∧ Owns w' w.heap.size v len xs ∧ w.grownBy w' none

set_option maxHeartbeats 400000 in
theorem szIntSL_any (ao : Option Addr) (len cap : Nat) (L r : Int) (w : World) (h0 : 0 ≤ L) (h1 : L ≤ 1048576) (hmax : len ≤ 9223372036854775807) (hr : r = if (len : Int) ≤ L then L - len else -1) :
    Calls Try.prog 75 #[.slice ao len cap, .int .i64 L] w fun e w' => e = .returned (.int .i64 r) ∧ w = w' := by
  by_cases h : (len : Int) ≤ L
  · rw [if_pos h] at hr
    subst hr
    have hd : decide (L - (len : Int) < 0) = false := by simp; omega
    go_enter Try.func75, Try.ntmps75
    go_wp2
    go_ret
    exact ⟨rfl, rfl⟩
  · rw [if_neg h] at hr
    subst hr
    have hd : decide (L - (len : Int) < 0) = true := by simp; omega
    go_enter Try.func75, Try.ntmps75
    go_wp2
    go_ret
    exact ⟨rfl, rfl⟩

end Go.Proofs.Ytncbgofcimghnaa
