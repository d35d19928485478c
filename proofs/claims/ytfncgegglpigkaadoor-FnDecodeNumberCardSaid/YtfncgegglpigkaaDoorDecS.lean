/-
  decodeNumber of the specification, for each form of the first byte.
-/
import Derived.Test.YtfncgegglpigkaaDoorDecM
import Derived.Test.YtfncgegglpigkaaDoorDecE
import Derived.Test.YtfncgegglpigkaaDoorEncS
import Derived.BigQuiet
import Derived.Deep.RegionHeld3
import Derived.IntWalk
namespace Go.Proofs.YtfncgegglpigkaaDoor
open Go.RowKit

/-- What a reading of the specification gives. -/
def GotS (o : Option (Int × Nat)) (w : World) (e : Ending) (w' : World) : Prop :=
  e = .returned (match o with | none => .tuple #[.int .i64 (-1), .int .i64 (-1)] | some p => .tuple #[.int .i64 p.1, .int .i64 (p.2 : Int)]) ∧ w.grownBy w' none

theorem take_drop_cons {xs : List Int} {a m : Nat} {x : Int} (h : xs[a]? = some x) : (xs.drop a).take (m + 1) = x :: (xs.drop (a + 1)).take m := by
  obtain ⟨hl, he⟩ := List.getElem?_eq_some_iff.1 h
  rw [List.drop_eq_getElem_cons hl, List.take_succ_cons, he]
theorem Ints.slice {w : World} {b off len : Nat} {xs : List Int} (h : Ints w (some ⟨b, off, none⟩) len xs) {a m : Nat} (hm : a + m ≤ len) : Ints w (some ⟨b, off + a, none⟩) m ((xs.drop a).take m) := by
  refine ⟨by have := h.1; simp; omega, Or.inr ⟨b, off + a, rfl, fun k x hx => ?_⟩⟩
  have hx2 : xs[a + k]? = some x := by
    rw [List.getElem?_take] at hx
    split at hx
    · simpa using hx
    · cases hx
  rw [Nat.add_assoc]; exact h.cell hx2

/-- The encoding of a number: how long it is, and what it is. -/
theorem encAll (n : Int) (h0 : 0 ≤ n) (h1 : n < 2147483648) : ∃ (L : List Int) (le : Nat), L.length = le ∧ le ≤ 6 ∧ (n < 128 → le ≤ 1) ∧ (n < 2048 → le ≤ 2) ∧ (n < 65536 → le ≤ 3) ∧ (n < 2097152 → le ≤ 4) ∧ (n < 67108864 → le ≤ 5) ∧ (0 ≤ n → n < 128 → L = [n]) ∧ (128 ≤ n → n < 2048 → L = [192 + n / 64, 128 + n % 64]) ∧ (2048 ≤ n → n < 65536 → L = [224 + n / 4096, 128 + n / 64 % 64, 128 + n % 64]) ∧ (65536 ≤ n → n < 2097152 → L = [240 + n / 262144, 128 + n / 4096 % 64, 128 + n / 64 % 64, 128 + n % 64]) ∧ (2097152 ≤ n → n < 67108864 → L = [248 + n / 16777216, 128 + n / 262144 % 64, 128 + n / 4096 % 64, 128 + n / 64 % 64, 128 + n % 64]) ∧ (67108864 ≤ n → n < 2147483648 → L = [252 + n / 1073741824, 128 + n / 16777216 % 64, 128 + n / 262144 % 64, 128 + n / 4096 % 64, 128 + n / 64 % 64, 128 + n % 64]) ∧ Hid (∀ w, Calls Tryd.prog 15 #[.int .i64 n] w (Made L le w)) := by
  obtain ⟨m, rfl⟩ := Int.eq_ofNat_of_zero_le h0
  by_cases g0 : m < 128
  · refine ⟨_, 1, ?_, by omega, fun h => by omega, fun h => by omega, fun h => by omega, fun h => by omega, fun h => by omega, fun _ _ => rfl, fun h h2 => by omega, fun h h2 => by omega, fun h h2 => by omega, fun h h2 => by omega, fun h h2 => by omega, fun w => sEnc0 m w (by omega) g0⟩
    rfl
  by_cases g1 : m < 2048
  · refine ⟨_, 2, ?_, by omega, fun h => by omega, fun h => by omega, fun h => by omega, fun h => by omega, fun h => by omega, fun h h2 => by omega, fun _ _ => rfl, fun h h2 => by omega, fun h h2 => by omega, fun h h2 => by omega, fun h h2 => by omega, fun w => sEnc1 m w (by omega) g1⟩
    rfl
  by_cases g2 : m < 65536
  · refine ⟨_, 3, ?_, by omega, fun h => by omega, fun h => by omega, fun h => by omega, fun h => by omega, fun h => by omega, fun h h2 => by omega, fun h h2 => by omega, fun _ _ => rfl, fun h h2 => by omega, fun h h2 => by omega, fun h h2 => by omega, fun w => sEnc2 m w (by omega) g2⟩
    rfl
  by_cases g3 : m < 2097152
  · refine ⟨_, 4, ?_, by omega, fun h => by omega, fun h => by omega, fun h => by omega, fun h => by omega, fun h => by omega, fun h h2 => by omega, fun h h2 => by omega, fun h h2 => by omega, fun _ _ => rfl, fun h h2 => by omega, fun h h2 => by omega, fun w => sEnc3 m w (by omega) g3⟩
    rfl
  by_cases g4 : m < 67108864
  · refine ⟨_, 5, ?_, by omega, fun h => by omega, fun h => by omega, fun h => by omega, fun h => by omega, fun h => by omega, fun h h2 => by omega, fun h h2 => by omega, fun h h2 => by omega, fun h h2 => by omega, fun _ _ => rfl, fun h h2 => by omega, fun w => sEnc4 m w (by omega) g4⟩
    rfl
  by_cases g5 : m < 2147483648
  · refine ⟨_, 6, ?_, by omega, fun h => by omega, fun h => by omega, fun h => by omega, fun h => by omega, fun h => by omega, fun h h2 => by omega, fun h h2 => by omega, fun h h2 => by omega, fun h h2 => by omega, fun h h2 => by omega, fun _ _ => rfl, fun w => sEnc5 m w (by omega) g5⟩
    rfl
  exfalso; omega

end Go.Proofs.YtfncgegglpigkaaDoor
