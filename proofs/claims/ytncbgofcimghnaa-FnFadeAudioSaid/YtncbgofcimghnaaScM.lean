/-
  Scaled samples as plain mathematics. No condition but the ranges that are named.
-/
import Derived.Test.YtncbgofcimghnaaLvM
import Derived.Test.YtncbgofcimghnaaQMath
namespace Go.Proofs.Ytncbgofcimghnaa
open Go.RowKit

/-- A sample that is scaled and limited, and whether it was limited. -/
def scx (u : Nat) (num den x : Int) : Int := min (2 ^ u - 1) (max (-(2 ^ u)) (qC den (x * num)))
def clx (u : Nat) (num den x : Int) : Nat := if scx u num den x = qC den (x * num) then 0 else 1
def scL (u : Nat) (num den : Int) (xs : List Int) : List Int := xs.map (scx u num den)
def clL (u : Nat) (num den : Int) (xs : List Int) : Nat := (xs.map (clx u num den)).sum
def clM (u : Nat) (num den : Int) (xss : List (List Int)) : Nat := (xss.map (clL u num den)).sum

theorem clL_take {u : Nat} {num den x : Int} {xs : List Int} {k : Nat} (h : xs[k]? = some x) : clL u num den (xs.take (k + 1)) = clL u num den (xs.take k) + clx u num den x := by
  unfold clL; rw [List.take_add_one, h]; simp
theorem clM_take {u : Nat} {num den : Int} {xss : List (List Int)} {xs : List Int} {k : Nat} (h : xss[k]? = some xs) : clM u num den (xss.take (k + 1)) = clM u num den (xss.take k) + clL u num den xs := by
  unfold clM; rw [List.take_add_one, h]; simp
theorem clx_le (u : Nat) (num den x : Int) : clx u num den x ≤ 1 := by unfold clx; split <;> omega
theorem clL_le (u : Nat) (num den : Int) (xs : List Int) : clL u num den xs ≤ xs.length := by
  induction xs with
  | nil => simp [clL]
  | cons x xs ih =>
    have := clx_le u num den x
    simp [clL] at ih ⊢
    omega
theorem clM_le {r d : Int} {xss : List (List Int)} {u H : Nat} (h : VA r d xss u H) (num den : Int) (k : Nat) : clM u num den (xss.take k) ≤ 256 * k := by
  induction k with
  | zero => simp [clM]
  | succ k ih =>
    by_cases hk : k < xss.length
    · have e : xss[k]? = some xss[k] := List.getElem?_eq_getElem hk
      rw [clM_take e]
      have h1 := clL_le u num den xss[k]
      have h2 := (h.row k _ e).1
      have h3 := h.hh
      omega
    · rw [List.take_of_length_le (by omega)]
      rw [List.take_of_length_le (by omega)] at ih
      omega
theorem scL_len (u : Nat) (num den : Int) (xs : List Int) : (scL u num den xs).length = xs.length := by simp [scL]

/-- The first k numbers scaled, the others not. -/
def mixS (f : Int → Int) (xs : List Int) (k : Nat) : List Int := (xs.take k).map f ++ xs.drop k
theorem mixS_zero (f : Int → Int) (xs : List Int) : mixS f xs 0 = xs := by simp [mixS]
theorem mixS_full {f : Int → Int} {xs : List Int} {k : Nat} (h : xs.length ≤ k) : mixS f xs k = xs.map f := by simp [mixS, List.take_of_length_le h, List.drop_of_length_le h]
theorem mixS_len (f : Int → Int) (xs : List Int) (k : Nat) : (mixS f xs k).length = xs.length := by simp [mixS]; omega
theorem mixS_get {f : Int → Int} {xs : List Int} {k : Nat} {x : Int} (h : xs[k]? = some x) : (mixS f xs k)[k]? = some x := by
  have hk := (List.getElem?_eq_some_iff.1 h).1
  unfold mixS
  rw [List.getElem?_append_right (by simp; omega), List.getElem?_drop]
  simp [Nat.min_eq_left (Nat.le_of_lt hk), h]
theorem mixS_set {f : Int → Int} {xs : List Int} {k : Nat} {x : Int} (h : xs[k]? = some x) : (mixS f xs k).set k (f x) = mixS f xs (k + 1) := by
  have hk := (List.getElem?_eq_some_iff.1 h).1
  unfold mixS
  have hl : ((xs.take k).map f).length = k := by simp; omega
  rw [List.set_append_right _ _ (by omega), hl, Nat.sub_self, List.take_add_one, h, List.drop_eq_getElem_cons hk, List.set_cons_zero]
  simp
theorem mixS_old {f : Int → Int} {xs : List Int} {k : Nat} {x : Int} (h : xs[k]? = some x) : (mixS f xs (k + 1))[k]? = some (f x) := by
  have hk := (List.getElem?_eq_some_iff.1 h).1
  rw [← mixS_set h, List.getElem?_set_self (by rw [mixS_len]; exact hk)]
/-- The same for rows. -/
def mixM (f : List Int → List Int) (xss : List (List Int)) (k : Nat) : List (List Int) := (xss.take k).map f ++ xss.drop k
theorem mixM_zero (f : List Int → List Int) (xss : List (List Int)) : mixM f xss 0 = xss := by simp [mixM]
theorem mixM_full {f : List Int → List Int} {xss : List (List Int)} {k : Nat} (h : xss.length ≤ k) : mixM f xss k = xss.map f := by simp [mixM, List.take_of_length_le h, List.drop_of_length_le h]
theorem mixM_len (f : List Int → List Int) (xss : List (List Int)) (k : Nat) : (mixM f xss k).length = xss.length := by simp [mixM]; omega
theorem mixM_get {f : List Int → List Int} {xss : List (List Int)} {k : Nat} {x : List Int} (h : xss[k]? = some x) : (mixM f xss k)[k]? = some x := by
  have hk := (List.getElem?_eq_some_iff.1 h).1
  unfold mixM
  rw [List.getElem?_append_right (by simp; omega), List.getElem?_drop]
  simp [Nat.min_eq_left (Nat.le_of_lt hk), h]
theorem mixM_set {f : List Int → List Int} {xss : List (List Int)} {k : Nat} {x : List Int} (h : xss[k]? = some x) : (mixM f xss k).set k (f x) = mixM f xss (k + 1) := by
  have hk := (List.getElem?_eq_some_iff.1 h).1
  unfold mixM
  have hl : ((xss.take k).map f).length = k := by simp; omega
  rw [List.set_append_right _ _ (by omega), hl, Nat.sub_self, List.take_add_one, h, List.drop_eq_getElem_cons hk, List.set_cons_zero]
  simp

/-- What ScaleAudio says. -/
def scOk (r d num den : Int) (xss : List (List Int)) : Bool := vAu r d xss && inB num 1 64 && inB den 1 64
theorem qC_small {den n : Int} (h : 1 ≤ den) (h2 : den ≤ 64) (h0 : -2097152 ≤ n) (h1 : n ≤ 2097152) : -2097153 ≤ qC den n ∧ qC den n ≤ 2097153 := by
  unfold qC
  have k1 := Int.emod_add_mul_ediv (2 * n + den) (2 * den)
  have k2 := Int.emod_nonneg (2 * n + den) (show 2 * den ≠ 0 by omega)
  have k3 := Int.emod_lt_of_pos (2 * n + den) (show 0 < 2 * den by omega)
  generalize (2 * n + den) / (2 * den) = q at *
  constructor
  · apply Int.not_lt.1; intro hq
    have : 2 * den * q ≤ 2 * den * (-2097154) := Int.mul_le_mul_of_nonneg_left (by omega) (by omega)
    omega
  · apply Int.not_lt.1; intro hq
    have : 2 * den * 2097154 ≤ 2 * den * q := Int.mul_le_mul_of_nonneg_left (by omega) (by omega)
    omega
theorem sc_mul {x num : Int} (h0 : -32768 ≤ x) (h1 : x ≤ 32768) (h2 : 1 ≤ num) (h3 : num ≤ 64) : -2097152 ≤ x * num ∧ x * num ≤ 2097152 := by
  have := mul_range (A := 32768) (B := 64) h0 h1 (by omega) h3 (by omega)
  omega

end Go.Proofs.Ytncbgofcimghnaa
