/-
  The walk of the exact law on BitsOf: it returns true and writes nothing that was there. For every list.
-/
import Derived.Test.YtcgcippniicaaaaDoorBits
import Derived.Test.YtcgcippniicaaaaDoorMem
import Derived.Test.YtcgcippniicaaaaDoorNum
namespace Go.Proofs.YtcgcippniicaaaaDoor
open Go.RowKit

def BoL (xs : List Int) : List Int := if valB xs then xs else []
theorem BoL_len (xs : List Int) : (BoL xs).length ≤ 2048 := by
  unfold BoL
  split
  · rename_i h; unfold valB at h; rw [Bool.and_eq_true] at h; simpa using h.1
  · simp
theorem sBitsOf_any (xs ys : List Int) (n : Nat) (ao : Option Addr) (len cap : Nat) (w : World) (hx : Ints w ao len xs) (hn : ao = none → cap = 0) (hlen : len ≤ 4194304) (hy : BoL xs = ys) (hyn : ys.length = n) :
    Calls Tryd.prog 25 #[.slice ao len cap] w (MadeBits ys n (8 * (n : Int)) w) := by
  subst hyn hy
  unfold BoL
  cases hv : valB xs with
  | true => simp only [if_true]; rw [hx.1]; exact sBitsOf_good xs ao len cap w hx hn hlen hv
  | false => exact sBitsOf_bad xs ao len cap w hx hlen hv
theorem iBitsOf_any (xs ys : List Int) (n : Nat) (ao : Option Addr) (len cap : Nat) (w : World) (hx : Ints w ao len xs) (hn : ao = none → cap = 0) (hlen : len ≤ 4194304) (hy : BoL xs = ys) (hyn : ys.length = n) :
    Calls Tryd.prog 24 #[.slice ao len cap] w (MadeBits ys n (8 * (n : Int)) w) := by
  subst hyn hy
  unfold BoL
  cases hv : valB xs with
  | true => simp only [if_true]; rw [hx.1]; exact iBitsOf_good xs ao len cap w hx hn hlen hv
  | false => exact iBitsOf_bad xs ao len cap w hx hlen hv

theorem eqBits_same (xs : List Int) (ao bo : Option Addr) (len cap cap' : Nat) (c : Int) (w : World) (hx : Ints w ao len xs) (hy : Ints w bo len xs) (hlen : len ≤ 4194304) :
    Calls Tryd.prog 28 #[.agg #[.slice ao len cap, .int .i64 c], .agg #[.slice bo len cap', .int .i64 c]] w fun e w' => e = .returned (.bool true) ∧ w.grownBy w' none :=
  (eqBits_any xs xs ao bo len cap len cap' c c w hx hy hlen).mono fun e w' ⟨he, hg⟩ => ⟨by rw [he]; simp, hg⟩
end Go.Proofs.YtcgcippniicaaaaDoor
