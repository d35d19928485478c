/-
  The statements on Zigzag, Unzigzag and RiceLength: the draws of their numbers, and the walks of the laws. For every code.
-/
import Derived.Test.YtgiiaijlahjfnaaNum
import Derived.Outline
namespace Go.Proofs.Ytgiiaijlahjfnaa
open Go.RowKit

set_option maxHeartbeats 400000 in
theorem anySigned_any (r P : Nat) (w : World) (hR : Rdr w r P) (hP : P < 900000) :
    Calls Try.prog 62 #[.pointer (some ⟨r, 0, none⟩)] w (Drawn (-4194304) 4194304 r (P + 3) w) := by
  go_enter Try.func62, Try.ntmps62
  go_wp2_with fail
  refine (pick_any 12 r P _ hR (by omega) (by omega)).mono ?_
  rintro e w1 ⟨m, rfl, hm0, hm1, _, hR1, hg⟩
  clear hR
  by_cases h0 : m = 0
  · subst h0
    go_wp2_with fail
    refine (one_lit [4194303, -4194303, 4194304, -4194304] _ r (P + 1) _ w1 hR1 (by omega) (by decide) (by decide)).mono ?_
    rintro e w2 ⟨x, hx, rfl, hR2, hg2⟩
    have HF := Lib.hid (show Drawn (-4194304) 4194304 r (P + 3) w (.returned (.int .i64 x)) w2 from
      ⟨x, rfl, by simp at hx; omega, by simp at hx; omega, hR2.mono (by omega), grown_trans hg hg2⟩)
    clear hx hR1 hR2 hg hg2 hm1
    go_wp2
    go_ret
    exact HF.out
  have h0' : (m == 0) = false := by simpa using h0
  by_cases h1 : m = 1
  · subst h1
    clear h0 h0'
    go_wp2_with fail
    refine (pick_any 250 r (P + 1) _ hR1 (by omega) (by omega)).mono ?_
    rintro e w2 ⟨a, rfl, ha0, ha1, _, hR2, hg2⟩
    clear hR1
    go_wp2_with fail
    refine (pick_any 250 r (P + 2) _ hR2 (by omega) (by omega)).mono ?_
    rintro e w3 ⟨b, rfl, hb0, hb1, _, hR3, hg3⟩
    clear hR2
    have ha2 : a < 250 := ha1 (by omega)
    have hb2 : b < 250 := hb1 (by omega)
    have hab0 : 0 ≤ a * b := Int.mul_nonneg ha0 hb0
    have hab : a * b ≤ 249 * 249 := Int.mul_le_mul (by omega) (by omega) hb0 (by omega)
    have HF := Lib.hid (show Drawn (-4194304) 4194304 r (P + 3) w (.returned (.int .i64 (a * b - 30000))) w3 from
      ⟨_, rfl, by omega, by omega, hR3, grown_trans hg (grown_trans hg2 hg3)⟩)
    clear ha1 hb1 hg hg2 hg3 hR3
    go_wp2
    go_ret
    exact HF.out
  · have h1' : (m == 1) = false := by simpa using h1
    clear h0 h1
    go_wp2_with fail
    refine (pick_any 60 r (P + 1) _ hR1 (by omega) (by omega)).mono ?_
    rintro e w2 ⟨a, rfl, ha0, ha1, _, hR2, hg2⟩
    have ha2 : a < 60 := ha1 (by omega)
    have HF := Lib.hid (show Drawn (-4194304) 4194304 r (P + 3) w (.returned (.int .i64 (a - 30))) w2 from
      ⟨_, rfl, by omega, by omega, hR2.mono (by omega), grown_trans hg hg2⟩)
    clear ha1 hg hg2 hR1 hR2
    go_wp2
    go_ret
    exact HF.out

/-! ### Zigzag, Unzigzag, RiceLength: what both texts compute -/
def zz (n : Int) : Int := if n < 0 then -2 * n - 1 else 2 * n
def Zz (n : Int) : Int := if n < -4194303 ∨ 4194303 < n then -1 else zz n
def uz (n : Int) : Int := if n % 2 = 1 then -((n + 1) / 2) else n / 2
def Rl (n k : Int) : Int := if Zz n < 0 ∨ k < 0 ∨ 14 < k ∨ 500 < Zz n / 2 ^ k.toNat then -1 else Zz n / 2 ^ k.toNat + 1 + k

theorem Zz_out {n : Int} (h : n < -4194303 ∨ 4194303 < n) : Zz n = -1 := by unfold Zz; rw [if_pos h]
theorem Zz_neg {n : Int} (h : -4194303 ≤ n) (h' : n < 0) : Zz n = -2 * n - 1 := by unfold Zz zz; rw [if_neg (by omega), if_pos h']
theorem Zz_pos {n : Int} (h : 0 ≤ n) (h' : n ≤ 4194303) : Zz n = 2 * n := by unfold Zz zz; rw [if_neg (by omega), if_neg (by omega)]
theorem Zz_le (n : Int) : -1 ≤ Zz n ∧ Zz n ≤ 8388606 := by unfold Zz zz; split <;> (try split) <;> omega

def UzOk (n : Int) : Bool := inB n 0 8388606
def Uz (n : Int) : Int := if UzOk n then uz n else 0
theorem Uz_out {n : Int} (h : ¬ (0 ≤ n ∧ n ≤ 8388606)) : Uz n = 0 ∧ UzOk n = false := by
  have := inB_false h
  unfold Uz UzOk; simp [this]
theorem Uz_in {n : Int} (h : 0 ≤ n) (h' : n ≤ 8388606) : Uz n = uz n ∧ UzOk n = true := by
  have := inB_true h h'
  unfold Uz UzOk; simp [this]
theorem uz_odd {n : Int} (h : n % 2 = 1) : uz n = -((n + 1) / 2) := by unfold uz; rw [if_pos h]
theorem uz_even {n : Int} (h : n % 2 = 0) : uz n = n / 2 := by unfold uz; rw [if_neg (by omega)]
/-- The Rice length in the parts in which both texts ask. -/
theorem Rl_out {n k : Int} (h : Zz n < 0 ∨ k < 0 ∨ 14 < k ∨ 500 < Zz n / 2 ^ k.toNat) : Rl n k = -1 := by unfold Rl; rw [if_pos h]
theorem Rl_in {n k : Int} (h : ¬ (Zz n < 0 ∨ k < 0 ∨ 14 < k ∨ 500 < Zz n / 2 ^ k.toNat)) : Rl n k = Zz n / 2 ^ k.toNat + 1 + k := by unfold Rl; rw [if_neg h]
theorem Zz_neg_iff (n : Int) : Zz n < 0 ↔ ¬ (-4194303 ≤ n ∧ n ≤ 4194303) := by unfold Zz zz; split <;> (try split) <;> omega

/-- Has a number a Rice code? -/
def Vr (n k : Int) : Bool := decide (¬ (Zz n < 0 ∨ k < 0 ∨ 14 < k ∨ 500 < Zz n / 2 ^ k.toNat))

end Go.Proofs.Ytgiiaijlahjfnaa
