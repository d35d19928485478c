/-
  The parameters of a partition as plain mathematics: widths of signed numbers, the costs of Rice codes. The specification's and the program's widths and costs. The lists are at most 64 numbers long.
-/
import Derived.Test.YtgiiaijlahjfnaaAuto
import Derived.Test.YtgiiaijlahjfnaaZig
import Derived.Lib.BitFns
import Derived.Lib.Strings
import Derived.Lib.Slices
import Derived.Lib.Small
namespace Go.Proofs.Ytgiiaijlahjfnaa
open Go.RowKit

theorem lt_bitLenAux : ∀ (f x : Nat), x < 2 ^ f → x < 2 ^ Lib.bitLenAux f x
  | 0, x, h => by simpa [Lib.bitLenAux] using h
  | f + 1, x, h => by
    simp only [Lib.bitLenAux]
    split
    · subst_vars; simp
    · have := lt_bitLenAux f (x / 2) (by rw [Nat.pow_succ] at h; omega)
      rw [Nat.add_comm 1, Nat.pow_succ]; omega
/-- A valid residual. -/
def vR (xs : List Int) : Bool := decide (xs.length ≤ 64) && allB xs (-4194303) 4194303
theorem vR_len {xs : List Int} (h : vR xs = true) : xs.length ≤ 64 := by
  unfold vR at h; simp only [Bool.and_eq_true, decide_eq_true_eq] at h; exact h.1
theorem vR_all {xs : List Int} (h : vR xs = true) : allB xs (-4194303) 4194303 = true := by
  unfold vR at h; simp only [Bool.and_eq_true] at h; exact h.2
/-- The width of a number. -/
def wid (x : Int) : Nat := Lib.bitLen (zz x).toNat
theorem zz_range {x : Int} (h0 : -4194303 ≤ x) (h1 : x ≤ 4194303) : 0 ≤ zz x ∧ zz x < 8388608 := by unfold zz; split <;> omega
theorem wid_le {x : Int} (h0 : -4194303 ≤ x) (h1 : x ≤ 4194303) : wid x ≤ 23 := by
  have := zz_range h0 h1
  exact Lib.bitLen_le _ 23 (by omega) (by omega)
theorem wid_iff {x : Int} (h0 : -4194303 ≤ x) (h1 : x ≤ 4194303) (v : Nat) (hv : v ≤ 64) : wid x ≤ v ↔ zz x < 2 ^ v := by
  have hz := zz_range h0 h1
  have e : ((2 ^ v : Nat) : Int) = 2 ^ v := by simp
  constructor
  · intro h
    have h2 : (zz x).toNat < 2 ^ wid x := lt_bitLenAux 64 _ (by omega)
    have h3 := Nat.pow_le_pow_right (show 0 < 2 by omega) h
    omega
  · intro h
    exact Lib.bitLen_le _ v hv (by omega)
theorem wid_zero {x : Int} (h0 : -4194303 ≤ x) (h1 : x ≤ 4194303) : wid x ≤ 0 ↔ x = 0 := by
  rw [wid_iff h0 h1 0 (by omega)]; unfold zz; split <;> omega
theorem wid_succ {x : Int} (h0 : -4194303 ≤ x) (h1 : x ≤ 4194303) (u : Nat) (hu : u ≤ 60) : wid x ≤ u + 1 ↔ -(2 ^ u) ≤ x ∧ x ≤ 2 ^ u - 1 := by
  rw [wid_iff h0 h1 (u + 1) (by omega), Int.pow_succ]
  generalize (2 : Int) ^ u = P
  unfold zz; split <;> omega
theorem pow30 (u : Nat) (h : u ≤ 30) : (1 : Int) ≤ 2 ^ u ∧ (2 : Int) ^ u ≤ 1073741824 := by
  have h1 := Nat.pow_le_pow_right (show 0 < 2 by omega) h
  have h2 := Nat.two_pow_pos u
  have e : ((2 ^ u : Nat) : Int) = 2 ^ u := by simp
  omega
/-- The greatest width. -/
def mxw (xs : List Int) : Nat := xs.foldl (fun u x => max u (wid x)) 0
theorem mxw_take {xs : List Int} {k : Nat} {x : Int} (h : xs[k]? = some x) : mxw (xs.take (k + 1)) = max (mxw (xs.take k)) (wid x) := by
  unfold mxw; rw [List.take_add_one, h]; simp [List.foldl_append]
theorem mxw_le : ∀ (xs : List Int) (u : Nat), u ≤ 23 → allB xs (-4194303) 4194303 = true → xs.foldl (fun u x => max u (wid x)) u ≤ 23
  | [], u, hu, _ => hu
  | x :: xs, u, hu, h => by
    have hx := allB_mem h (show (x :: xs)[0]? = some x from rfl)
    have := wid_le hx.1 hx.2
    refine mxw_le xs _ (by show max u (wid x) ≤ 23; omega) ?_
    unfold allB at h ⊢
    rw [List.all_cons, Bool.and_eq_true] at h
    exact h.2

theorem Rl_le2 (n k : Int) : -1 ≤ Rl n k ∧ Rl n k ≤ 515 := by
  by_cases h2 : Zz n < 0 ∨ k < 0 ∨ 14 < k ∨ 500 < Zz n / 2 ^ k.toNat
  · rw [Rl_out h2]; omega
  · have hp : (0 : Int) < 2 ^ k.toNat := Int.pow_pos (by decide)
    have hm0 : 0 ≤ Zz n / 2 ^ k.toNat := Int.ediv_nonneg (by omega) (by omega)
    rw [Rl_in h2]; omega
/-- Have all numbers a code? How long are all codes? -/
def vrL (k : Nat) (xs : List Int) : Bool := xs.all (fun x => Vr x (k : Int))
def rlS (k : Nat) (xs : List Int) : Int := (xs.map (fun x => Rl x (k : Int))).sum
theorem Vr_Rl {x k : Int} (h : Vr x k = true) : 1 ≤ Rl x k := by
  have h2 := of_decide_eq_true h
  rw [Rl_in h2]
  have : 0 ≤ Zz x / 2 ^ k.toNat := Int.ediv_nonneg (by omega) (Int.pow_nonneg (by decide))
  omega
theorem Vr_no {x k : Int} (h : Vr x k = false) : Rl x k = -1 := Rl_out (Classical.not_not.1 (of_decide_eq_false h))
theorem vrL_take {k j : Nat} {xs : List Int} {x : Int} (h : xs[j]? = some x) : vrL k (xs.take (j + 1)) = (vrL k (xs.take j) && Vr x k) := by
  unfold vrL; rw [List.take_add_one, h]; simp
theorem vrL_no {k j : Nat} {xs : List Int} {x : Int} (h : xs[j]? = some x) (hv : Vr x k = false) : vrL k xs = false := by
  cases e : vrL k xs with
  | false => rfl
  | true =>
    unfold vrL at e
    rw [List.all_eq_true] at e
    have := e x (List.mem_of_getElem? h)
    rw [hv] at this; cases this
theorem rlS_take {k j : Nat} {xs : List Int} {x : Int} (h : xs[j]? = some x) : rlS k (xs.take (j + 1)) = rlS k (xs.take j) + Rl x k := by
  unfold rlS; rw [List.take_add_one, h]; simp
theorem rlS_range (k : Nat) : ∀ xs : List Int, -(xs.length : Int) ≤ rlS k xs ∧ rlS k xs ≤ 515 * (xs.length : Int)
  | [] => by simp [rlS]
  | x :: xs => by
    have h1 := rlS_range k xs
    have h2 := Rl_le2 x k
    have e : rlS k (x :: xs) = Rl x k + rlS k xs := by simp [rlS]
    rw [e, List.length_cons]
    omega
theorem rlS_pos (k : Nat) : ∀ xs : List Int, vrL k xs = true → 0 ≤ rlS k xs
  | [], _ => by simp [rlS]
  | x :: xs, h => by
    have e : rlS k (x :: xs) = Rl x k + rlS k xs := by simp [rlS]
    unfold vrL at h
    rw [List.all_cons, Bool.and_eq_true] at h
    have h1 := rlS_pos k xs h.2
    have h2 := Vr_Rl h.1
    omega
/-- What a partition costs with a parameter; -1 if it cannot have it. -/
def pc (xs : List Int) (k : Nat) : Int := if k = 15 then 9 + (xs.length : Int) * (mxw xs : Int) else if vrL k xs then 4 + rlS k xs else -1
theorem pc_esc (xs : List Int) : pc xs 15 = 9 + (xs.length : Int) * (mxw xs : Int) := by unfold pc; rw [if_pos rfl]
theorem pc_good {xs : List Int} {k : Nat} (h : k ≠ 15) (hv : vrL k xs = true) : pc xs k = 4 + rlS k xs := by unfold pc; rw [if_neg h, if_pos hv]
theorem pc_bad {xs : List Int} {k : Nat} (h : k ≠ 15) (hv : vrL k xs = false) : pc xs k = -1 := by unfold pc; rw [if_neg h, hv]; rfl
theorem mxw_mul {xs : List Int} (hv : vR xs = true) : 0 ≤ (xs.length : Int) * (mxw xs : Int) ∧ (xs.length : Int) * (mxw xs : Int) ≤ 1472 := by
  have h1 := vR_len hv
  have h2 : mxw xs ≤ 23 := mxw_le xs 0 (by omega) (vR_all hv)
  have h3 := Nat.mul_le_mul h1 h2
  have e : ((xs.length * mxw xs : Nat) : Int) = (xs.length : Int) * (mxw xs : Int) := by simp
  omega
theorem pc_range {xs : List Int} (hv : vR xs = true) (k : Nat) : -1 ≤ pc xs k ∧ pc xs k ≤ 40000 := by
  unfold pc
  have h1 := mxw_mul hv
  have h2 := rlS_range k xs
  have h3 := vR_len hv
  split
  · omega
  · split
    · have := rlS_pos k xs (by assumption); omega
    · omega

/-- The first of the cheapest among the choices below j; among those from j to 15. -/
def Bst (c : Nat → Int) (j b : Nat) : Prop := b < j ∧ 0 ≤ c b ∧ ∀ q, q < j → 0 ≤ c q → c b < c q ∨ (c b = c q ∧ b ≤ q)
def Non (c : Nat → Int) (j : Nat) : Prop := ∀ q, q < j → c q < 0
def Dst (c : Nat → Int) (j b : Nat) : Prop := j ≤ b ∧ b ≤ 15 ∧ 0 ≤ c b ∧ ∀ q, j ≤ q → q ≤ 15 → 0 ≤ c q → c b < c q ∨ (c b = c q ∧ b ≤ q)
theorem bst_first {c : Nat → Int} {j : Nat} (h : Non c j) (h0 : 0 ≤ c j) : Bst c (j + 1) j := ⟨by omega, h0, fun q hq h1 => by
  by_cases e : q = j
  · subst e; exact Or.inr ⟨rfl, Nat.le_refl _⟩
  · have := h q (by omega); omega⟩
theorem non_more {c : Nat → Int} {j : Nat} (h : Non c j) (h0 : c j < 0) : Non c (j + 1) := fun q hq => by
  by_cases e : q = j
  · subst e; exact h0
  · exact h q (by omega)
theorem bst_new {c : Nat → Int} {j b : Nat} (h : Bst c j b) (h0 : 0 ≤ c j) (h1 : c j < c b) : Bst c (j + 1) j := ⟨by omega, h0, fun q hq h2 => by
  by_cases e : q = j
  · subst e; exact Or.inr ⟨rfl, Nat.le_refl _⟩
  · have := h.2.2 q (by omega) h2; omega⟩
theorem bst_old {c : Nat → Int} {j b : Nat} (h : Bst c j b) (h1 : c j < 0 ∨ c b ≤ c j) : Bst c (j + 1) b := ⟨by have := h.1; omega, h.2.1, fun q hq h2 => by
  by_cases e : q = j
  · subst e; have := h.1; omega
  · exact h.2.2 q (by omega) h2⟩
theorem bst_uniq {c : Nat → Int} {j b b' : Nat} (h : Bst c j b) (h' : Bst c j b') : b = b' := by
  have h1 := h.2.2 b' h'.1 h'.2.1
  have h2 := h'.2.2 b h.1 h.2.1
  omega
theorem dst_last {c : Nat → Int} (h0 : 0 ≤ c 15) : Dst c 15 15 := ⟨Nat.le_refl _, Nat.le_refl _, h0, fun q h1 h2 _ => by
  obtain rfl : q = 15 := by omega
  exact Or.inr ⟨rfl, Nat.le_refl _⟩⟩
theorem dst_new {c : Nat → Int} {j b : Nat} (h : Dst c (j + 1) b) (h0 : 0 ≤ c j) (h1 : c j ≤ c b) : Dst c j j := ⟨Nat.le_refl _, by have := h.1; have := h.2.1; omega, h0, fun q h2 h3 h4 => by
  by_cases e : q = j
  · subst e; exact Or.inr ⟨rfl, Nat.le_refl _⟩
  · have := h.2.2.2 q (by omega) h3 h4; omega⟩
theorem dst_old {c : Nat → Int} {j b : Nat} (h : Dst c (j + 1) b) (h1 : c j < 0 ∨ c b < c j) : Dst c j b := ⟨by have := h.1; omega, h.2.1, h.2.2.1, fun q h2 h3 h4 => by
  by_cases e : q = j
  · subst e; omega
  · exact h.2.2.2 q (by omega) h3 h4⟩
theorem dst_bst {c : Nat → Int} {b : Nat} (h : Dst c 0 b) : Bst c 16 b := ⟨by have := h.2.1; omega, h.2.2.1, fun q h1 h2 => h.2.2.2 q (by omega) (by omega) h2⟩
theorem bst_some (c : Nat → Int) : ∀ j, Non c j ∨ ∃ b, Bst c j b
  | 0 => Or.inl (fun q hq => by omega)
  | j + 1 => by
    rcases bst_some c j with h | ⟨b, h⟩
    · by_cases h0 : 0 ≤ c j
      · exact Or.inr ⟨j, bst_first h h0⟩
      · exact Or.inl (non_more h (by omega))
    · by_cases h0 : 0 ≤ c j ∧ c j < c b
      · exact Or.inr ⟨j, bst_new h h0.1 h0.2⟩
      · exact Or.inr ⟨b, bst_old h (by omega)⟩
theorem bst_there {c : Nat → Int} (h0 : 0 ≤ c 15) : ∃ b, Bst c 16 b := by
  rcases bst_some c 16 with h | h
  · have := h 15 (by omega); omega
  · exact h

end Go.Proofs.Ytgiiaijlahjfnaa
