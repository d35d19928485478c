/-
  Levels as plain mathematics: what valid audio has, absolute values and peaks. No condition but the ranges that are named.
-/
import Derived.Test.YtncbgofcimghnaaVAu
namespace Go.Proofs.Ytncbgofcimghnaa
open Go.RowKit

/-- What valid audio has. -/
structure VA (r d : Int) (xss : List (List Int)) (u H : Nat) : Prop where
  rate : 1 ≤ r ∧ r ≤ 999999
  dep : d = (u : Int) + 1
  u3 : 3 ≤ u
  u15 : u ≤ 15
  ch : 1 ≤ xss.length ∧ xss.length ≤ 2
  hd : (xss.headD []).length = H
  hh : H ≤ 256
  row : ∀ (k : Nat) (xs : List Int), xss[k]? = some xs → xs.length = H ∧ allB xs (-(2 ^ u)) (2 ^ u - 1) = true

theorem va_of {r d : Int} {xss : List (List Int)} (h : vAu r d xss = true) : ∃ u H, VA r d xss u H := by
  unfold vAu at h
  simp only [Bool.and_eq_true, decide_eq_true_eq] at h
  obtain ⟨⟨⟨⟨h1, h2⟩, h3⟩, h4⟩, h5⟩ := h
  have h1' : 1 ≤ r ∧ r ≤ 999999 := by simpa [inB] using h1
  have h2' : 4 ≤ d ∧ d ≤ 16 := by simpa [inB] using h2
  refine ⟨(d - 1).toNat, _, h1', by omega, by omega, by omega, h3, rfl, h5, fun k xs hx => ?_⟩
  rw [List.all_eq_true] at h4
  have := h4 xs (List.mem_of_getElem? hx)
  unfold vCh at this
  simpa using this
theorem va_back {r d : Int} {xss : List (List Int)} {u H : Nat} (h : VA r d xss u H) : vAu r d xss = true := by
  unfold vAu
  have h1 : inB r 1 999999 = true := inB_true h.rate.1 h.rate.2
  have h2 : inB d 4 16 = true := inB_true (by have := h.dep; have := h.u3; omega) (by have := h.dep; have := h.u15; omega)
  have h3 : ∀ xs ∈ xss, vCh (d - 1).toNat (xss.headD []).length xs = true := fun xs hx => by
    obtain ⟨k, hk⟩ := List.getElem?_of_mem hx
    obtain ⟨a, b⟩ := h.row k xs hk
    unfold vCh
    rw [h.hd, show (d - 1).toNat = u by have := h.dep; omega, b]
    simp [a]
  rw [h1, h2, decide_eq_true h.ch, List.all_eq_true.2 h3, decide_eq_true (show (xss.headD []).length ≤ 256 by rw [h.hd]; exact h.hh)]
  rfl
theorem VA.pow {r d : Int} {xss : List (List Int)} {u H : Nat} (h : VA r d xss u H) : (8 : Int) ≤ 2 ^ u ∧ (2 : Int) ^ u ≤ 32768 := by
  have := h.u3
  have := h.u15
  have h1 := Nat.pow_le_pow_right (show 0 < 2 by omega) h.u15
  have h2 := Nat.pow_le_pow_right (show 0 < 2 by omega) h.u3
  have e : ((2 ^ u : Nat) : Int) = 2 ^ u := by simp
  omega
theorem VA.num {r d : Int} {xss : List (List Int)} {u H k j : Nat} {xs : List Int} {x : Int} (h : VA r d xss u H) (hx : xss[k]? = some xs) (hj : xs[j]? = some x) : -(2 ^ u) ≤ x ∧ x ≤ 2 ^ u - 1 := by
  have := (h.row k xs hx).2
  unfold allB at this
  rw [List.all_eq_true] at this
  have := this x (List.mem_of_getElem? hj)
  simpa [inB] using this

/-- The absolute value. -/
def ab (x : Int) : Int := if x < 0 then -x else x
def pkL (m : Int) (xs : List Int) : Int := xs.foldl (fun m x => max m (ab x)) m
def pkM (m : Int) (xss : List (List Int)) : Int := xss.foldl pkL m

theorem ab_range {x B : Int} (h : -B ≤ x) (h' : x ≤ B) : 0 ≤ ab x ∧ ab x ≤ B := by unfold ab; split <;> omega
theorem pkL_take {m : Int} {xs : List Int} {k : Nat} {x : Int} (h : xs[k]? = some x) : pkL m (xs.take (k + 1)) = max (pkL m (xs.take k)) (ab x) := by
  unfold pkL; rw [List.take_add_one, h, List.foldl_append]; rfl
theorem pkM_take {m : Int} {xss : List (List Int)} {k : Nat} {xs : List Int} (h : xss[k]? = some xs) : pkM m (xss.take (k + 1)) = pkL (pkM m (xss.take k)) xs := by
  unfold pkM; rw [List.take_add_one, h, List.foldl_append]; rfl
theorem pkL_max (a : Int) (xs : List Int) : ∀ b, pkL (max a b) xs = max a (pkL b xs) := by
  induction xs with
  | nil => intro b; rfl
  | cons x xs ih => intro b; show pkL (max (max a b) (ab x)) xs = max a (pkL (max b (ab x)) xs); rw [Int.max_assoc, ih]
theorem pkL_split {m : Int} (h : 0 ≤ m) (xs : List Int) : pkL m xs = max m (pkL 0 xs) := by
  rw [← pkL_max, show max m 0 = m by omega]
theorem pkL_range {B : Int} {xs : List Int} (h : ∀ x ∈ xs, -B ≤ x ∧ x ≤ B) : ∀ m, 0 ≤ m → m ≤ B → 0 ≤ pkL m xs ∧ pkL m xs ≤ B := by
  induction xs with
  | nil => intro m h0 h1; exact ⟨h0, h1⟩
  | cons x xs ih =>
    intro m h0 h1
    have hx := h x (by simp)
    have ha := ab_range hx.1 hx.2
    exact ih (fun y hy => h y (by simp [hy])) (max m (ab x)) (by omega) (by omega)
theorem allB_abs {xs : List Int} {B : Int} (h : allB xs (-B) (B - 1) = true) (k : Nat) : ∀ x ∈ xs.take k, -B ≤ x ∧ x ≤ B := fun x hx => by
  unfold allB at h
  rw [List.all_eq_true] at h
  have := h x (List.mem_of_mem_take hx)
  simp [inB] at this
  omega
theorem pkL_le {m : Int} {xs : List Int} : m ≤ pkL m xs := by
  induction xs generalizing m with
  | nil => exact Int.le_refl _
  | cons x xs ih => exact Int.le_trans (by omega) (ih (m := max m (ab x)))
theorem pkL_ge {m : Int} {xs : List Int} {x : Int} (h : x ∈ xs) : ab x ≤ pkL m xs := by
  induction xs generalizing m with
  | nil => simp at h
  | cons y xs ih =>
    rcases List.mem_cons.1 h with rfl | h
    · exact Int.le_trans (by omega) (pkL_le (m := max m (ab x)) (xs := xs))
    · exact ih h
theorem pkL_at {m : Int} {xs : List Int} : pkL m xs = m ∨ ∃ x ∈ xs, ab x = pkL m xs := by
  induction xs generalizing m with
  | nil => exact Or.inl rfl
  | cons y xs ih =>
    rcases ih (m := max m (ab y)) with h | ⟨x, hx, h⟩
    · by_cases hc : m ≤ ab y
      · right
        refine ⟨y, by simp, ?_⟩
        show ab y = pkL (max m (ab y)) xs
        rw [h]; omega
      · left
        show pkL (max m (ab y)) xs = m
        rw [h]; omega
    · exact Or.inr ⟨x, by simp [hx], h⟩
theorem pkM_rows {r d : Int} {xss : List (List Int)} {u H : Nat} (h : VA r d xss u H) (k : Nat) : 0 ≤ pkM 0 (xss.take k) ∧ pkM 0 (xss.take k) ≤ 2 ^ u := by
  have hp := h.pow
  induction k with
  | zero => simp [pkM]; omega
  | succ k ih =>
    by_cases hk : k < xss.length
    · have e : xss[k]? = some xss[k] := List.getElem?_eq_getElem hk
      rw [pkM_take e]
      have := allB_abs (h.row k _ e).2 xss[k].length
      rw [List.take_length] at this
      exact pkL_range this _ ih.1 ih.2
    · rw [List.take_of_length_le (by omega)]
      rw [List.take_of_length_le (by omega)] at ih
      exact ih

end Go.Proofs.Ytncbgofcimghnaa
