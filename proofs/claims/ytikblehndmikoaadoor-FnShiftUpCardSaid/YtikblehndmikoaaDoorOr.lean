/-
  The bits that numbers have together: which powers of 2 divide them all. The powers are at most 2 to the 60th.
-/
import Derived.Test.YtikblehndmikoaaDoorSh
import Derived.Laws.BitsLemmas
namespace Go.Proofs.YtikblehndmikoaaDoor
open Go.RowKit

theorem wrap_mod (n : Int) (s : Nat) (hs : s ≤ 60) : IntKind.i64.wrap n % 2 ^ s = n % 2 ^ s := by
  have e : IntKind.i64.wrap n = n - (2 ^ s) * (2 ^ (64 - s) * ((n + 9223372036854775808) / 18446744073709551616)) := by
    rw [← Int.mul_assoc, ← Int.pow_add, show s + (64 - s) = 64 by omega, IntKind.wrap_i64]
    have : (2 : Int) ^ 64 = 18446744073709551616 := by decide
    rw [this]; omega
  rw [e, Int.sub_mul_emod_self_left]
theorem ofInt_mod (a : Int) (s : Nat) (hs : s ≤ 60) : (((BitVec.ofInt 64 a).toNat % 2 ^ s : Nat) : Int) = a % 2 ^ s := by
  rw [BitVec.toNat_ofInt, Int.natCast_emod]
  have h0 : (0 : Int) ≤ a % ((2 ^ 64 : Nat) : Int) := Int.emod_nonneg _ (by decide)
  rw [Int.toNat_of_nonneg h0]
  have e : ((2 ^ 64 : Nat) : Int) = 2 ^ s * 2 ^ (64 - s) := by
    rw [← Int.pow_add, show s + (64 - s) = 64 by omega]; decide
  rw [e]
  have e2 : ((2 ^ s : Nat) : Int) = 2 ^ s := by simp
  rw [e2, Int.emod_emod_of_dvd _ (Int.dvd_mul_right _ _)]
theorem or_mod (a b : Int) (s : Nat) (hs : s ≤ 60) : bits .or .i64 a b % 2 ^ s = 0 ↔ a % 2 ^ s = 0 ∧ b % 2 ^ s = 0 := by
  have e : bits .or .i64 a b = IntKind.i64.wrap ((BitVec.ofInt 64 a ||| BitVec.ofInt 64 b).toNat : Nat) := rfl
  rw [e, wrap_mod _ _ hs, BitVec.toNat_or]
  have h : ((((BitVec.ofInt 64 a).toNat ||| (BitVec.ofInt 64 b).toNat : Nat) : Int)) % 2 ^ s = ((((BitVec.ofInt 64 a).toNat ||| (BitVec.ofInt 64 b).toNat) % 2 ^ s : Nat) : Int) := by simp
  rw [h, Nat.or_mod_two_pow, ← ofInt_mod a s hs, ← ofInt_mod b s hs]
  generalize (BitVec.ofInt 64 a).toNat % 2 ^ s = x
  generalize (BitVec.ofInt 64 b).toNat % 2 ^ s = y
  constructor
  · intro h
    have h' : x ||| y = 0 := by omega
    rw [Nat.or_eq_zero_iff] at h'
    omega
  · rintro ⟨h1, h2⟩
    have h1' : x = 0 := by omega
    have h2' : y = 0 := by omega
    rw [h1', h2']; rfl
theorem and_mask (n : Int) (s : Nat) (hs : s ≤ 60) : bits .and .i64 n (2 ^ s - 1) = n % 2 ^ s := by
  have hp : (1 : Nat) ≤ 2 ^ s := Nat.one_le_two_pow
  have hp2 : (2 : Nat) ^ s ≤ 2 ^ 60 := Nat.pow_le_pow_right (by omega) hs
  have hc : ((2 ^ s - 1 : Nat) : Int) = 2 ^ s - 1 := by rw [Int.natCast_sub hp]; simp
  have h1 : (BitVec.ofInt 64 ((2 : Int) ^ s - 1)).toNat = 2 ^ s - 1 := by
    rw [← hc, BitVec.toNat_ofInt]
    have : (((2 ^ s - 1 : Nat) : Int) % ((2 ^ 64 : Nat) : Int)).toNat = (2 ^ s - 1) % 2 ^ 64 := by
      rw [← Int.natCast_emod, Int.toNat_natCast]
    rw [this, Nat.mod_eq_of_lt (by have : (2 : Nat) ^ 60 < 2 ^ 64 := by decide
                                   omega)]
  have key : (BitVec.ofInt 64 n &&& BitVec.ofInt 64 ((2 : Int) ^ s - 1)).toNat = (BitVec.ofInt 64 n).toNat % 2 ^ s := by
    rw [BitVec.toNat_and, h1, Nat.and_two_pow_sub_one_eq_mod]
  show IntKind.i64.wrap ((BitVec.ofInt 64 n &&& BitVec.ofInt 64 ((2 : Int) ^ s - 1)).toNat : Nat) = n % 2 ^ s
  rw [key, ofInt_mod n s hs]
  have b0 : 0 ≤ n % 2 ^ s := Int.emod_nonneg _ (by have : (1 : Int) ≤ 2 ^ s := by exact_mod_cast hp
                                                   omega)
  have b1 : n % 2 ^ s < 2 ^ s := Int.emod_lt_of_pos _ (by have : (1 : Int) ≤ 2 ^ s := by exact_mod_cast hp
                                                          omega)
  have b2 : (2 : Int) ^ s ≤ 2 ^ 60 := by exact_mod_cast hp2
  have b3 : (2 : Int) ^ 60 = 1152921504606846976 := by decide
  rw [IntKind.wrap_i64]
  omega

/-- The bits of all numbers. -/
def orL (xs : List Int) : Int := xs.foldl (fun u x => bits .or .i64 u x) 0
theorem orL_take {xs : List Int} {k : Nat} {x : Int} (h : xs[k]? = some x) : orL (xs.take (k + 1)) = bits .or .i64 (orL (xs.take k)) x := by
  unfold orL; rw [List.take_add_one, h]; simp
theorem fold_mod (xs : List Int) (s : Nat) (hs : s ≤ 60) (u : Int) : (xs.foldl (fun u x => bits .or .i64 u x) u) % 2 ^ s = 0 ↔ u % 2 ^ s = 0 ∧ evenL s xs = true := by
  induction xs generalizing u with
  | nil => simp [evenL]
  | cons x xs ih =>
    rw [List.foldl_cons, ih, or_mod _ _ _ hs]
    unfold evenL
    simp only [List.all_cons, Bool.and_eq_true, decide_eq_true_eq]
    constructor
    · rintro ⟨⟨a, b⟩, c⟩; exact ⟨a, b, c⟩
    · rintro ⟨a, b, c⟩; exact ⟨⟨a, b⟩, c⟩
theorem orL_mod (xs : List Int) (s : Nat) (hs : s ≤ 60) : orL xs % 2 ^ s = 0 ↔ evenL s xs = true := by
  unfold orL; rw [fold_mod xs s hs]; simp

set_option maxHeartbeats 1000000 in
theorem usedBits_any (xs : List Int) (n : Nat) (ao : Option Addr) (cap : Nat) (w : World) (hx : Ints w ao n xs) (hn : n ≤ 64) :
    Calls Tryd.prog 24 #[.slice ao n cap] w fun e w' => e = .returned (.int .i64 (orL xs)) ∧ w = w' := by
  have HX := Lib.hid hx
  clear hx
  go_enter Tryd.func24, Tryd.ntmps24
  go_wp2
  go_loop [3, 8] (fun u i => ∃ (k : Nat) (z : Int), k ≤ n ∧ i = .int .i64 k ∧ u = .int .i64 z ∧ Hid (orL (xs.take k) = z)) (fun _ i => n - (intOf i).toNat)
  case atStart => exact ⟨0, 0, Nat.zero_le _, rfl, rfl, rfl⟩
  case round =>
    obtain ⟨k, z, hk, rfl, rfl, hz⟩ := hrel
    by_cases hlt : k < n
    · obtain ⟨x, hxk⟩ : ∃ x, xs[k]? = some x := ⟨_, List.getElem?_eq_getElem (by rw [HX.out.1]; exact hlt)⟩
      obtain ⟨b, off, rfl, hc⟩ := HX.out.2.resolve_left (by intro e; subst e; simp at hxk)
      have hcx := hc k x hxk
      have HZ : Hid (orL (xs.take (k + 1)) = bits .or .i64 z x) := by show _ = _; rw [orL_take hxk, hz.out]
      clear hc hxk
      go_wp2
      go_round
      case rel => exact ⟨k + 1, bits .or .i64 z x, by omega, by go_num, rfl, HZ⟩
      case measure => simp [intOf]; omega
    · have HF : Hid (orL xs = z) := by show _ = _; have := hz.out; rwa [List.take_of_length_le (by rw [HX.out.1]; omega)] at this
      go_wp2
      go_ret
      exact ⟨ret_int HF.out.symm, rfl⟩

end Go.Proofs.YtikblehndmikoaaDoor
