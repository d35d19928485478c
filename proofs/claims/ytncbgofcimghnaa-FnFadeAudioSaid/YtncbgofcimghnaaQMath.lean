/-
  Rounded quotients and quantized coefficients as plain mathematics. No condition but the ranges that are named.
-/
import Derived.Test.YtncbgofcimghnaaList
namespace Go.Proofs.Ytncbgofcimghnaa
open Go.RowKit

/-- One step: the number that comes, the rest of the one before. -/
def qN (s : Nat) (r x : Int) : Int := x * 2 ^ s + r
def qC (den n : Int) : Int := (2 * n + den) / (2 * den)
def qStep (den : Int) (s : Nat) (p : Int × List Int) (x : Int) : Int × List Int := (qN s p.1 x - den * qC den (qN s p.1 x), p.2 ++ [qC den (qN s p.1 x)])
def qAll (den : Int) (s : Nat) (xs : List Int) : Int × List Int := xs.foldl (qStep den s) (0, [])

theorem qAll_nil (den : Int) (s : Nat) : qAll den s [] = (0, []) := rfl
theorem qAll_snoc (den : Int) (s : Nat) (xs : List Int) (x : Int) : qAll den s (xs ++ [x]) = qStep den s (qAll den s xs) x := by
  unfold qAll; rw [List.foldl_append]; rfl
theorem qAll_take {den : Int} {s : Nat} {xs : List Int} {k : Nat} {x : Int} (h : xs[k]? = some x) : qAll den s (xs.take (k + 1)) = qStep den s (qAll den s (xs.take k)) x := by
  rw [List.take_add_one, h]; exact qAll_snoc _ _ _ _

theorem qC_bound {den n : Int} (h : 1 ≤ den) : -den ≤ 2 * (n - den * qC den n) ∧ 2 * (n - den * qC den n) ≤ den := by
  unfold qC
  have h1 := Int.emod_add_mul_ediv (2 * n + den) (2 * den)
  have h2 := Int.emod_nonneg (2 * n + den) (show 2 * den ≠ 0 by omega)
  have h3 := Int.emod_lt_of_pos (2 * n + den) (show 0 < 2 * den by omega)
  generalize (2 * n + den) / (2 * den) = q at *
  generalize (2 * n + den) % (2 * den) = m at *
  have h4 : 2 * den * q = 2 * (den * q) := Int.mul_assoc 2 den q
  generalize den * q = z at *
  omega
theorem qRest_bound {den : Int} {s : Nat} (h : 1 ≤ den) (xs : List Int) : -den ≤ 2 * (qAll den s xs).1 ∧ 2 * (qAll den s xs).1 ≤ den := by
  unfold qAll
  have : ∀ (ys : List Int) (p : Int × List Int), (-den ≤ 2 * p.1 ∧ 2 * p.1 ≤ den) → (-den ≤ 2 * (ys.foldl (qStep den s) p).1 ∧ 2 * (ys.foldl (qStep den s) p).1 ≤ den) := by
    intro ys
    induction ys with
    | nil => intro p hp; exact hp
    | cons y ys ih => intro p hp; rw [List.foldl_cons]; exact ih _ (qC_bound h)
  exact this xs _ ⟨by simp; omega, by simp; omega⟩
theorem qLen {den : Int} {s : Nat} (xs : List Int) : (qAll den s xs).2.length = xs.length := by
  unfold qAll
  have : ∀ (ys : List Int) (p : Int × List Int), (ys.foldl (qStep den s) p).2.length = p.2.length + ys.length := by
    intro ys
    induction ys with
    | nil => intro p; simp
    | cons y ys ih => intro p; rw [List.foldl_cons, ih]; simp [qStep]; omega
  have := this xs (0, [])
  simpa using this

theorem pow_le (s : Nat) (h : s ≤ 14) : (1 : Int) ≤ 2 ^ s ∧ (2 : Int) ^ s ≤ 16384 := by
  have : s = 0 ∨ s = 1 ∨ s = 2 ∨ s = 3 ∨ s = 4 ∨ s = 5 ∨ s = 6 ∨ s = 7 ∨ s = 8 ∨ s = 9 ∨ s = 10 ∨ s = 11 ∨ s = 12 ∨ s = 13 ∨ s = 14 := by omega
  rcases this with h | h | h | h | h | h | h | h | h | h | h | h | h | h | h <;> subst h <;> decide

theorem mul_range {a b A B : Int} (ha : -A ≤ a) (ha' : a ≤ A) (hb : 0 ≤ b) (hb' : b ≤ B) (hA : 0 ≤ A) : -(A * B) ≤ a * b ∧ a * b ≤ A * B := by
  constructor
  · have h1 : -A * b ≤ a * b := Int.mul_le_mul_of_nonneg_right ha hb
    have h2 : A * b ≤ A * B := Int.mul_le_mul_of_nonneg_left hb' hA
    rw [Int.neg_mul] at h1; omega
  · have h1 : a * b ≤ A * b := Int.mul_le_mul_of_nonneg_right ha' hb
    have h2 : A * b ≤ A * B := Int.mul_le_mul_of_nonneg_left hb' hA
    omega
theorem qN_bound {s : Nat} {r x : Int} (hs : s ≤ 14) (hr : -99999 ≤ r) (hr' : r ≤ 99999) (hx : -99999 ≤ x) (hx' : x ≤ 99999) : -2000000000 ≤ qN s r x ∧ qN s r x ≤ 2000000000 := by
  have hp := pow_le s hs
  have := mul_range hx hx' (show (0 : Int) ≤ 2 ^ s by omega) hp.2 (by omega)
  unfold qN; omega
theorem qC_range {den n : Int} (h : 1 ≤ den) (h0 : -2000000000 ≤ n) (h1 : n ≤ 2000000000) : -2000000001 ≤ qC den n ∧ qC den n ≤ 2000000001 := by
  unfold qC
  have k1 := Int.emod_add_mul_ediv (2 * n + den) (2 * den)
  have k2 := Int.emod_nonneg (2 * n + den) (show 2 * den ≠ 0 by omega)
  have k3 := Int.emod_lt_of_pos (2 * n + den) (show 0 < 2 * den by omega)
  generalize (2 * n + den) / (2 * den) = q at *
  constructor
  · apply Int.not_lt.1; intro hq
    have : 2 * den * q ≤ 2 * den * (-2000000002) := Int.mul_le_mul_of_nonneg_left (by omega) (by omega)
    omega
  · apply Int.not_lt.1; intro hq
    have : 2 * den * 2000000002 ≤ 2 * den * q := Int.mul_le_mul_of_nonneg_left (by omega) (by omega)
    omega
theorem qD_range {den n : Int} (h : 1 ≤ den) (h0 : -2000000000 ≤ n) (h1 : n ≤ 2000000000) (hd : den ≤ 99999) : -2000100000 ≤ den * qC den n ∧ den * qC den n ≤ 2000100000 := by
  have := qC_bound (n := n) h
  omega

/-- Go's division of a number by a positive one, and the correction: the quotient rounded down. -/
theorem floor_of {a b : Int} (hb : 0 < b) : (if a.tmod b < 0 then a.tdiv b - 1 else a.tdiv b) = a / b := by
  have h1 := Int.mul_tdiv_add_tmod a b
  have h2 := Int.emod_add_mul_ediv a b
  have h3 := Int.emod_nonneg a (show b ≠ 0 by omega)
  have h4 := Int.emod_lt_of_pos a hb
  have h5 : -b < a.tmod b := Int.lt_tmod_of_pos a hb
  have h6 : a.tmod b < b := Int.tmod_lt_of_pos a hb
  have key : ∀ q : Int, b * q ≤ a → a < b * q + b → q = a / b := by
    intro q hq1 hq2
    rcases Int.lt_trichotomy q (a / b) with h | h | h
    · have : b * (q + 1) ≤ b * (a / b) := Int.mul_le_mul_of_nonneg_left (by omega) (by omega)
      rw [Int.mul_add, Int.mul_one] at this; omega
    · exact h
    · have : b * (a / b + 1) ≤ b * q := Int.mul_le_mul_of_nonneg_left (by omega) (by omega)
      rw [Int.mul_add, Int.mul_one] at this; omega
  split
  · apply key
    · rw [Int.mul_sub, Int.mul_one]; omega
    · rw [Int.mul_sub, Int.mul_one]; omega
  · apply key <;> omega

theorem allB_mem {xs : List Int} {lo hi x : Int} {k : Nat} (h : allB xs lo hi = true) (hx : xs[k]? = some x) : lo ≤ x ∧ x ≤ hi := by
  unfold allB at h
  rw [List.all_eq_true] at h
  have := h x (List.mem_of_getElem? hx)
  simpa [inB] using this

/-! The sums. -/
theorem sum_snoc (xs : List Int) (x : Int) : (xs ++ [x]).sum = xs.sum + x := by simp
theorem qSum {den : Int} {s : Nat} (xs : List Int) : xs.sum * 2 ^ s - den * (qAll den s xs).2.sum = (qAll den s xs).1 := by
  unfold qAll
  have : ∀ (ys : List Int) (p : Int × List Int) (z : Int), (z * 2 ^ s - den * p.2.sum = p.1) → (z + ys.sum) * 2 ^ s - den * (ys.foldl (qStep den s) p).2.sum = (ys.foldl (qStep den s) p).1 := by
    intro ys
    induction ys with
    | nil => intro p z h; simpa using h
    | cons y ys ih =>
      intro p z h
      rw [List.foldl_cons, List.sum_cons, ← Int.add_assoc]
      apply ih
      simp only [qStep, sum_snoc, qN]
      rw [Int.add_mul, Int.mul_add]
      generalize den * qC den (y * 2 ^ s + p.1) = u
      omega
  have := this xs (0, []) 0 (by simp)
  simpa using this

/-- Exact multiples stay. -/
theorem qExact {den : Int} (h : 1 ≤ den) (ys : List Int) : qAll den 0 (ys.map (· * den)) = (0, ys) := by
  have : ∀ (ys acc : List Int), (ys.map (· * den)).foldl (qStep den 0) (0, acc) = (0, acc ++ ys) := by
    intro ys
    induction ys with
    | nil => intro acc; simp
    | cons y ys ih =>
      intro acc
      have e : qC den (qN 0 0 (y * den)) = y := by
        unfold qC qN
        have e1 : 2 * (y * den * 2 ^ 0 + 0) + den = den + (2 * den) * y := by
          have : 2 * den * y = 2 * (y * den) := by rw [Int.mul_assoc, Int.mul_comm den y]
          rw [this]; simp; omega
        rw [e1, Int.add_mul_ediv_left _ _ (by omega), Int.ediv_eq_zero_of_lt (by omega) (by omega)]; simp
      rw [List.map_cons, List.foldl_cons]
      have e2 : qStep den 0 (0, acc) (y * den) = (0, acc ++ [y]) := by
        unfold qStep
        simp only [e]
        rw [show qN 0 0 (y * den) = den * y by unfold qN; simp [Int.mul_comm]]
        simp
      rw [e2, ih]; simp
  exact this ys []

end Go.Proofs.Ytncbgofcimghnaa
