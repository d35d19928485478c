/-
  The walks of the laws on Zigzag, Unzigzag and RiceLength: each returns true and writes nothing that was there. For every code.
-/
import Derived.Test.YtdbneenlejgjcaaDoorZig
namespace Go.Proofs.YtdbneenlejgjcaaDoor
open Go.RowKit

theorem Rl_zero {k : Int} (h : 0 ≤ k) (h' : k ≤ 14) : Rl 0 k = k + 1 := by
  have hz : Zz 0 = 0 := by decide
  rw [Rl_in (by rw [hz]; simp; omega), hz]; simp; omega
theorem Zz_uz {z : Int} (h : 0 ≤ z) (h' : z ≤ 8388606) : Zz (uz z) = z := by
  rcases (show z % 2 = 1 ∨ z % 2 = 0 by omega) with h3 | h3
  · rw [uz_odd h3, Zz_neg (by omega) (by omega)]; omega
  · rw [uz_even h3, Zz_pos (by omega) (by omega)]; omega
theorem Rl_more {n m k : Int} (hz : Zz m = Zz n + 1) : Rl m k < 0 ∨ Rl n k ≤ Rl m k := by
  by_cases h : Zz m < 0 ∨ k < 0 ∨ 14 < k ∨ 500 < Zz m / 2 ^ k.toNat
  · left; rw [Rl_out h]; omega
  · right
    have hp : (0 : Int) < 2 ^ k.toNat := Int.pow_pos (by decide)
    have hle : Zz n / 2 ^ k.toNat ≤ Zz m / 2 ^ k.toNat := Int.ediv_le_ediv hp (by omega)
    by_cases h2 : Zz n < 0 ∨ k < 0 ∨ 14 < k ∨ 500 < Zz n / 2 ^ k.toNat
    · have hm0 : 0 ≤ Zz m / 2 ^ k.toNat := Int.ediv_nonneg (by omega) (by omega)
      rw [Rl_out h2, Rl_in h]; omega
    · rw [Rl_in h, Rl_in h2]; omega
theorem Rl_nonneg {n k : Int} (h : 0 ≤ Rl n k) : 0 ≤ k ∧ k ≤ 14 ∧ 0 ≤ Zz n := by
  by_cases h2 : Zz n < 0 ∨ k < 0 ∨ 14 < k ∨ 500 < Zz n / 2 ^ k.toNat
  · rw [Rl_out h2] at h; omega
  · omega
theorem Rl_le (n k : Int) : -1 ≤ Rl n k ∧ Rl n k ≤ 515 := by
  by_cases h2 : Zz n < 0 ∨ k < 0 ∨ 14 < k ∨ 500 < Zz n / 2 ^ k.toNat
  · rw [Rl_out h2]; omega
  · have hp : (0 : Int) < 2 ^ k.toNat := Int.pow_pos (by decide)
    have hm0 : 0 ≤ Zz n / 2 ^ k.toNat := Int.ediv_nonneg (by omega) (by omega)
    rw [Rl_in h2]; omega

/-! ### The exact laws on numbers -/
end Go.Proofs.YtdbneenlejgjcaaDoor
