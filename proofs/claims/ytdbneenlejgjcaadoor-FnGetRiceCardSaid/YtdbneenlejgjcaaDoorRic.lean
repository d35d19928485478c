/-
  putRice of the program: what the writer gets.
-/
import Derived.Test.YtdbneenlejgjcaaDoorUna2
import Derived.Test.YtdbneenlejgjcaaDoorZig
namespace Go.Proofs.YtdbneenlejgjcaaDoor
open Go.RowKit
variable {K : List (Nat × Obj)}

theorem numB_mod (v k : Nat) : numB (v % 2 ^ k) k = numB v k := by
  apply List.ext_getElem?
  intro j
  by_cases h : j < k
  · rw [numB_get h, numB_get h]
    congr 2
    have e : v % 2 ^ k / 2 ^ (k - 1 - j) = v / 2 ^ (k - 1 - j) % 2 ^ (j + 1) := by
      have : 2 ^ k = 2 ^ (k - 1 - j) * 2 ^ (j + 1) := by rw [← Nat.pow_add]; congr 1; omega
      rw [this, Nat.mod_mul_right_div_self]
    rw [e, Nat.mod_mod_of_dvd _ (by rw [Nat.pow_succ]; exact Nat.dvd_mul_left _ _)]
  · rw [List.getElem?_eq_none (by rw [numB_len]; omega), List.getElem?_eq_none (by rw [numB_len]; omega)]

/-- The Rice code of the number numbered z, with k low bits. -/
def ric (z k : Nat) : List Bool := una (z / 2 ^ k) ++ numB z k
theorem ric_len (z k : Nat) : (ric z k).length = z / 2 ^ k + 1 + k := by simp [ric, una_len, numB_len]

theorem Rl_good {n k : Int} {z kk : Nat} (hz : Zz n = (z : Int)) (hk : k = (kk : Int)) (hkk : kk ≤ 14) (hq : z / 2 ^ kk ≤ 500) : Rl n k = ((z / 2 ^ kk : Nat) : Int) + 1 + (kk : Int) := by
  unfold Rl
  have e : Zz n / 2 ^ k.toNat = ((z / 2 ^ kk : Nat) : Int) := by rw [hz, hk]; simp
  rw [e, hz, if_neg (by omega), hk]

set_option maxRecDepth 100000 in
set_option maxHeartbeats 2000000 in
theorem putRice_good (n : Int) (z k : Nat) (w0 w : World) (B : Nat) (bs : List Bool) (hz : Zz n = (z : Int)) (hk : k ≤ 14) (hq : z / 2 ^ k ≤ 500) (hW : Wtr K w0 w B bs) (hb : bs.length + (z / 2 ^ k + 1 + k) ≤ 16384) :
    Calls Tryd.prog 42 #[.pointer (some ⟨B, 0, none⟩), .int .i64 n, .int .i64 (k : Int)] w fun e w' => e = .returned .nilIface ∧ Wtr K w0 w' B (bs ++ ric z k) := by
  obtain ⟨q, hqq⟩ : ∃ q, z / 2 ^ k = q := ⟨_, rfl⟩
  have hRl := Rl_good hz (rfl : (k : Int) = (k : Int)) hk hq
  have hz8 := Zz_le n
  rw [hz] at hz8
  have hz9 : z ≤ 8388606 := by omega
  have hz10 : (z : Int) ≤ 8388606 := by omega
  rw [hqq] at hRl hq hb
  obtain ⟨h, hh⟩ : ∃ h : Int, 2 ^ k = h := ⟨_, rfl⟩
  have hp2 : (2 : Nat) ^ k ≤ 2 ^ 14 := Nat.pow_le_pow_right (by decide) hk
  have hp3 : 1 ≤ (2 : Nat) ^ k := Nat.one_le_two_pow
  have hpe : h = ((2 ^ k : Nat) : Int) := by rw [← hh]; simp
  have hp0 : 1 ≤ h := by omega
  have hp1 : h ≤ 16384 := by rw [hpe]; exact_mod_cast hp2
  have HDV : Hid ((z : Int) / h = (q : Int)) := by show _ = _; rw [hpe, ← hqq]; simp
  have HAN : Hid (bits .and .i64 (z : Int) (h - 1) = ((z % 2 ^ k : Nat) : Int)) := by
    show _ = _
    rw [hpe, show ((2 ^ k : Nat) : Int) - 1 = ((2 ^ k - 1 : Nat) : Int) by omega, i64_and_nat z (2 ^ k - 1) (by omega) (by omega), Nat.and_two_pow_sub_one_eq_mod]
  have d1 : decide ((q : Int) + 1 + (k : Int) < 0) = false := by simp; omega
  have HZ := Lib.hid hz
  have HRL := Lib.hid hRl
  have HW := Lib.hid hW
  have HQ := Lib.hid hqq
  have HB := Lib.hid hb
  clear hz hRl hW hqq hb hz8 hp2 hp3 hpe
  go_enter Tryd.func42, Tryd.ntmps42
  go_wp2_with fail
  refine (iRiceLength n (k : Int) _ _ HRL.out).mono ?_
  rintro e w' ⟨rfl, rfl⟩
  go_wp2_with fail
  refine (iZigzag n _ _ HZ.out).mono ?_
  rintro e w' ⟨rfl, rfl⟩
  go_wp2_with fail
  first | rw [HDV.out] | (trace_state; fail)
  refine (putUnary_good q w0 _ B bs HW.out hq (by have := HB.out; omega)).mono ?_
  rintro e w2 ⟨rfl, hW2⟩
  have HW2 := Lib.hid hW2
  clear hW2
  go_wp2_with fail
  first | rw [HAN.out] | (trace_state; fail)
  refine (put_good (z % 2 ^ k) k w0 _ B _ HW2.out (by omega) (Nat.mod_lt _ (Nat.two_pow_pos k)) (by rw [List.length_append, una_len]; have := HB.out; omega)).mono ?_
  rintro e w3 ⟨rfl, hW3⟩
  have HW3 : Hid (Wtr K w0 w3 B (bs ++ ric z k)) := by
    have h := hW3
    rw [numB_mod, List.append_assoc, ← HQ.out] at h
    exact h
  clear hW3
  go_wp2
  go_ret
  exact ⟨rfl, HW3.out⟩

end Go.Proofs.YtdbneenlejgjcaaDoor
