/-
  The draws of samples: what 'randomSamples', 'anyCount' and 'anySamples' give. For every code.
-/
import Derived.Test.YthgppflplcoemaaDraw
import Derived.Test.YthgppflplcoemaaQMath
namespace Go.Proofs.Ythgppflplcoemaa
open Go.RowKit

theorem allB_wide {xs : List Int} {lo hi lo' hi' : Int} (h : allB xs lo hi = true) (h1 : lo' ≤ lo) (h2 : hi ≤ hi') : allB xs lo' hi' = true := by
  unfold allB at *
  rw [List.all_eq_true] at *
  intro x hx
  have := h x hx
  simp [inB] at *
  omega

/-- A drawn list of n numbers in a range, in new memory; the reader has gone on. -/
def DrewS (n : Nat) (lo hi : Int) (r P : Nat) (w : World) (e : Ending) (w' : World) : Prop :=
  ∃ (v : Value) (xs : List Int), e = .returned v ∧ Owns w' w.heap.size v n xs ∧ allB xs lo hi = true ∧ Rdr w' r P ∧ w.grownBy w' (some r)

theorem allB_snoc {xs : List Int} {x lo hi : Int} (h : allB xs lo hi = true) (h1 : lo ≤ x) (h2 : x ≤ hi) : allB (xs ++ [x]) lo hi = true := by
  unfold allB at *
  rw [List.all_append, h]; simp [inB, h1, h2]

theorem pow_le17 (k : Nat) (h : k ≤ 16) : (1 : Int) ≤ 2 ^ k ∧ (2 : Int) ^ k ≤ 65536 := by
  have : k ≤ 14 ∨ k = 15 ∨ k = 16 := by omega
  rcases this with h | h | h
  · have := pow_le k h; omega
  · subst h; decide
  · subst h; decide

set_option maxHeartbeats 400000 in
theorem anyCount_any (r P : Nat) (w : World) (hR : Rdr w r P) (hP : P < 900000) :
    Calls Try.prog 22 #[.pointer (some ⟨r, 0, none⟩)] w fun e w' => ∃ n : Nat, e = .returned (.int .i64 (n : Int)) ∧ n ≤ 24 ∧ Rdr w' r (P + 1) ∧ w.grownBy w' (some r) := by
  go_enter Try.func22, Try.ntmps22
  go_wp2_with fail
  refine (one_at [8, 16, 5, 4, 1, 12, 0, 3, 24, 2] _ r P _ _ w rfl hR (by omega) (by decide) (by decide)).mono ?_
  rintro e w1 ⟨x, hx, rfl, hR1, hg1⟩
  obtain ⟨n, rfl⟩ := Int.eq_ofNat_of_zero_le (show 0 ≤ x by simp at hx; omega)
  have hn : n ≤ 24 := by simp at hx; omega
  have HF : Hid (Rdr w1 r (P + 1) ∧ w.grownBy w1 (some r)) := ⟨hR1, hg1⟩
  clear hx hR1 hg1 hR
  go_wp2
  go_ret
  exact ⟨n, rfl, hn, HF.out⟩

/-- Drawn samples that may be invalid. -/
def DrewA (r P : Nat) (w : World) (e : Ending) (w' : World) : Prop :=
  ∃ (v : Value) (len : Nat) (xs : List Int), e = .returned v ∧ len ≤ 66 ∧ Owns w' w.heap.size v len xs ∧ allB xs (-65537) 65537 = true ∧ Rdr w' r P ∧ w.grownBy w' (some r)

end Go.Proofs.Ythgppflplcoemaa
