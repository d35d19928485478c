/-
  Numbers that are drawn, the range test, and what a law's walk comes to. For every code.
-/
import Derived.Test.YtncbgofcimghnaaRead
import Derived.Outline
namespace Go.Proofs.Ytncbgofcimghnaa
open Go.RowKit

def Drawn (lo hi : Int) (r P : Nat) (w : World) (e : Ending) (w' : World) : Prop :=
  ∃ n : Int, e = .returned (.int .i64 n) ∧ lo ≤ n ∧ n ≤ hi ∧ Rdr w' r P ∧ w.grownBy w' (some r)

/-- A number that is drawn out of a code: a world that is new but for blocks. -/
def Num (lo hi : Int) (w : World) (e : Ending) (w' : World) : Prop :=
  ∃ n : Int, e = .returned (.int .i64 n) ∧ lo ≤ n ∧ n ≤ hi ∧ w.grownBy w' none

def Num2 (lo hi lo' hi' : Int) (w : World) (e : Ending) (w' : World) : Prop :=
  ∃ n k : Int, e = .returned (.tuple #[.int .i64 n, .int .i64 k]) ∧ lo ≤ n ∧ n ≤ hi ∧ lo' ≤ k ∧ k ≤ hi' ∧ w.grownBy w' none

/-- What a law's walk comes to. -/
def Holds (w : World) (e : Ending) (w' : World) : Prop := e = .returned (.bool true) ∧ w.grownBy w' none

def Same (w : World) (e : Ending) (w' : World) : Prop := e = .returned (.bool true) ∧ w = w'

set_option maxHeartbeats 400000 in
theorem inRange_any (n lo hi : Int) (b : Bool) (w : World) (hb : inB n lo hi = b) : Calls Try.prog 43 #[.int .i64 n, .int .i64 lo, .int .i64 hi] w fun e w' => e = .returned (.bool b) ∧ w = w' := by
  subst hb
  by_cases h1 : lo ≤ n
  · by_cases h2 : n ≤ hi
    · rw [inB_true h1 h2]
      go_enter Try.func43, Try.ntmps43
      go_wp2
      go_ret
      exact ⟨by simp, rfl⟩
    · rw [inB_false (by omega)]
      have h2' : decide (n ≤ hi) = false := by simp; omega
      go_enter Try.func43, Try.ntmps43
      go_wp2
      go_ret
      exact ⟨by simp, rfl⟩
  · rw [inB_false (by omega)]
    have h1' : decide (lo ≤ n) = false := by simp; omega
    go_enter Try.func43, Try.ntmps43
    go_wp2
    go_ret
    exact ⟨by simp, rfl⟩

end Go.Proofs.Ytncbgofcimghnaa
