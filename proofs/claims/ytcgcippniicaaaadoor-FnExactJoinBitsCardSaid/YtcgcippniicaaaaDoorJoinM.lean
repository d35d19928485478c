/-
  Bits that are read as numbers and put again: a number of the next bits has these bits. Plain mathematics.
-/
import Derived.Test.YtcgcippniicaaaaDoorRdr
namespace Go.Proofs.YtcgcippniicaaaaDoor
open Go.RowKit

theorem numB_snoc (v c k : Nat) (hc : c < 2) : numB (2 * v + c) (k + 1) = numB v k ++ [decide (c = 1)] := by
  unfold numB
  rw [List.range_succ, List.map_append, List.map_cons, List.map_nil]
  congr 1
  · apply List.map_congr_left
    intro j hj
    have hj : j < k := List.mem_range.1 hj
    rw [show k + 1 - 1 - j = (k - 1 - j) + 1 by omega, Nat.pow_succ, Nat.mul_comm (2 ^ (k - 1 - j)) 2, ← Nat.div_div_eq_div_mul, show (2 * v + c) / 2 = v by omega]
  · rw [show k + 1 - 1 - k = 0 by omega, Nat.pow_zero, Nat.div_one, show (2 * v + c) % 2 = c by omega]

theorem numV_numB (bs : List Bool) (at_ : Nat) : ∀ wd, at_ + wd ≤ bs.length → ∃ v : Nat, numV bs at_ wd = (v : Int) ∧ v < 2 ^ wd ∧ numB v wd = (bs.drop at_).take wd := by
  intro wd
  induction wd with
  | zero => intro _; exact ⟨0, rfl, by simp, by simp [numB]⟩
  | succ k ih =>
    intro h
    obtain ⟨v, hv, hlt, hB⟩ := ih (by omega)
    have hget : (bs.drop at_)[k]? = some (bs.getD (at_ + k) false) := by
      rw [List.getElem?_drop, List.getElem?_eq_getElem (by omega), List.getD_eq_getElem?_getD, List.getElem?_eq_getElem (by omega)]; rfl
    cases hb : bs.getD (at_ + k) false with
    | true =>
      refine ⟨2 * v + 1, ?_, ?_, ?_⟩
      · simp only [numV]; rw [hv]; unfold cb; rw [hb]; simp
      · rw [Nat.pow_succ]; omega
      · rw [numB_snoc v 1 k (by omega), hB, List.take_add_one, hget, hb]; rfl
    | false =>
      refine ⟨2 * v + 0, ?_, ?_, ?_⟩
      · simp only [numV]; rw [hv]; unfold cb; rw [hb]; simp
      · rw [Nat.pow_succ]; omega
      · rw [numB_snoc v 0 k (by omega), hB, List.take_add_one, hget, hb]; rfl

/-- The upper bits of a byte. -/
theorem numV_byte (bs : List Bool) (k wd : Nat) (h : wd ≤ 8) : byteAt bs k / 2 ^ (8 - wd) = numV bs (8 * k) wd := by
  unfold byteAt
  have h0 := cb_range bs (8 * k); have h1 := cb_range bs (8 * k + 1); have h2 := cb_range bs (8 * k + 2); have h3 := cb_range bs (8 * k + 3)
  have h4 := cb_range bs (8 * k + 4); have h5 := cb_range bs (8 * k + 5); have h6 := cb_range bs (8 * k + 6); have h7 := cb_range bs (8 * k + 7)
  have : wd = 0 ∨ wd = 1 ∨ wd = 2 ∨ wd = 3 ∨ wd = 4 ∨ wd = 5 ∨ wd = 6 ∨ wd = 7 ∨ wd = 8 := by omega
  rcases this with rfl | rfl | rfl | rfl | rfl | rfl | rfl | rfl | rfl <;> simp only [numV, Nat.add_zero] <;> simp <;> omega

theorem take_step (bs : List Bool) (a n : Nat) : bs.take a ++ (bs.drop a).take n = bs.take (a + n) := (List.take_add ..).symm

end Go.Proofs.YtcgcippniicaaaaDoor
