/-
  Correlations: the sums as plain mathematics, and both texts. The lists are at most 4194304 numbers long.
-/
import Derived.Test.YtncbgofcimghnaaILin
import Derived.Test.YtncbgofcimghnaaMem
import Derived.Deep.LoopGhost
import Derived.Deep.QuietTactic
import Derived.BigQuiet
import Derived.IntWalk
namespace Go.Proofs.Ytncbgofcimghnaa
open Go.RowKit

/-- Samples are valid. -/
def vS (xs : List Int) : Bool := decide (xs.length ≤ 64) && allB xs (-65536) 65536
theorem vS_len {xs : List Int} (h : vS xs = true) : xs.length ≤ 64 := by
  unfold vS at h; simp only [Bool.and_eq_true, decide_eq_true_eq] at h; exact h.1
theorem vS_all {xs : List Int} (h : vS xs = true) : allB xs (-65536) 65536 = true := by
  unfold vS at h; simp only [Bool.and_eq_true] at h; exact h.2

/-! The sums. -/
def acS (xs : List Int) (d : Nat) : Nat → Int
  | 0 => 0
  | k + 1 => acS xs d k + xs.getD (d + k) 0 * xs.getD k 0
def ac (xs : List Int) (d : Nat) : Int := acS xs d (xs.length - d)
theorem prod_range {a b : Int} (h0 : -65536 ≤ a) (h1 : a ≤ 65536) (h2 : -65536 ≤ b) (h3 : b ≤ 65536) : -4294967296 ≤ a * b ∧ a * b ≤ 4294967296 := by
  rcases Int.le_total 0 b with h | h
  · have := mul_range (A := 65536) (B := 65536) h0 h1 h h3 (by omega); omega
  · have := mul_range (A := 65536) (B := 65536) h0 h1 (show 0 ≤ -b by omega) (by omega) (by omega)
    rw [Int.mul_neg] at this; omega
theorem getD_range {xs : List Int} (h : allB xs (-65536) 65536 = true) (k : Nat) : -65536 ≤ xs.getD k 0 ∧ xs.getD k 0 ≤ 65536 := by
  rw [List.getD_eq_getElem?_getD]
  cases hk : xs[k]? with
  | none => simp
  | some x => exact allB_mem h hk
theorem acS_range {xs : List Int} (h : allB xs (-65536) 65536 = true) (d k : Nat) : -(4294967296 * (k : Int)) ≤ acS xs d k ∧ acS xs d k ≤ 4294967296 * (k : Int) := by
  induction k with
  | zero => simp [acS]
  | succ k ih =>
    have h1 := getD_range h (d + k)
    have h2 := getD_range h k
    have := prod_range h1.1 h1.2 h2.1 h2.2
    simp only [acS]
    omega

theorem drop_get {xs : List Int} {d k : Nat} : (xs.drop d)[k]? = xs[d + k]? := List.getElem?_drop
theorem getD_of {xs : List Int} {k : Nat} {x : Int} (h : xs[k]? = some x) : xs.getD k 0 = x := by rw [List.getD_eq_getElem?_getD, h]; rfl

/-- The correlations so far. -/
def acL (xs : List Int) (m : Nat) : List Int := (List.range m).map (ac xs)
theorem acL_succ (xs : List Int) (m : Nat) : acL xs (m + 1) = acL xs m ++ [ac xs m] := by unfold acL; rw [List.range_succ]; simp
theorem acL_len (xs : List Int) (m : Nat) : (acL xs m).length = m := by simp [acL]

/-- Inside the program's correlations. -/
structure AQ (w : World) (u : Value) (bv : Value) (n : Nat) (ys : List Int) (wr : World) : Prop where
  now : wr.heap[w.heap.size]? = some (.cells #[u] 39 (0, 0))
  own : Owns wr (w.heap.size + 1) bv n ys
  g : w.grownBy wr none
theorem aq_step {w wr w2 : World} {o : Obj} {u bv v2 : Value} {n : Nat} {ys zs : List Int} (h : AQ w u bv n ys wr) (hg : (wr.alloc o).grownBy w2 bv.ownBlock) (ho : Owns w2 (w.heap.size + 1) v2 (n + 1) zs) : AQ w u v2 (n + 1) zs w2 := by
  have hb : ∀ g, bv.ownBlock = some g → w.heap.size + 1 ≤ g := fun g e => h.own.block g e
  exact ⟨grown_heap hg (grown_heap (grown_alloc wr o none) h.now (by simp)) (fun e => by have := hb _ e; omega), ho, grown_row (grown_trans h.g (grown_alloc _ _ _)) hg (fun g e => by have := hb g e; omega)⟩

end Go.Proofs.Ytncbgofcimghnaa
