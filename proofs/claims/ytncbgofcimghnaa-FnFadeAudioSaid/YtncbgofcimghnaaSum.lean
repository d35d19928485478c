/-
  Sums of lists, and the laws' comparison of predictors. The numbers of a sum are at most 100000 in size, and at most 1000 many.
-/
import Derived.Test.YtncbgofcimghnaaLin
import Derived.Test.YtncbgofcimghnaaQMath
namespace Go.Proofs.Ytncbgofcimghnaa
open Go.RowKit

theorem sum_range {B : Int} (hB : 0 ≤ B) (xs : List Int) (h : allB xs (-B) B = true) : -(B * (xs.length : Int)) ≤ xs.sum ∧ xs.sum ≤ B * (xs.length : Int) := by
  induction xs with
  | nil => simp
  | cons x xs ih =>
    have h1 : inB x (-B) B = true ∧ allB xs (-B) B = true := by simpa [allB] using h
    have hx : -B ≤ x ∧ x ≤ B := by simpa [inB] using h1.1
    have := ih h1.2
    rw [List.sum_cons, List.length_cons, Int.natCast_succ, Int.mul_add, Int.mul_one]
    omega
theorem allB_prefix {xs : List Int} {lo hi : Int} (h : allB xs lo hi = true) (k : Nat) : allB (xs.take k) lo hi = true := by
  unfold allB at *
  rw [List.all_eq_true] at *
  exact fun x hx => h x (List.mem_of_mem_take hx)
theorem allB_mono {xs : List Int} {lo hi lo' hi' : Int} (h : allB xs lo hi = true) (h1 : lo' ≤ lo) (h2 : hi ≤ hi') : allB xs lo' hi' = true := by
  unfold allB at *
  rw [List.all_eq_true] at *
  intro x hx
  have := h x hx
  simp [inB] at *
  omega
theorem sum_take {xs : List Int} {k : Nat} {x : Int} (h : xs[k]? = some x) : (xs.take (k + 1)).sum = (xs.take k).sum + x := by
  rw [List.take_add_one, h]; simp

end Go.Proofs.Ytncbgofcimghnaa
