/-
  Reading a number, as mathematics.
-/
import Derived.Test.YtfncgegglpigkaaDoorList
namespace Go.Proofs.YtfncgegglpigkaaDoor
open Go.RowKit

/-- The number with these further bytes, if they are further bytes. -/
def tailR (xs : List Int) : Nat → Nat → Int → Option Int
  | 0, _, n => some n
  | k + 1, p, n => match xs[p]? with
    | none => none
    | some c => if 128 ≤ c ∧ c ≤ 191 then tailR xs k (p + 1) (n * 64 + c - 128) else none

/-- The number at a place, and the place behind it, for a first byte of a form. -/
def decR (xs : List Int) (a : Nat) (x f lim : Int) (r : Nat) : Option (Int × Nat) :=
  match tailR xs r (a + 1) (x - f) with
  | none => none
  | some n => if 0 < r ∧ n < lim then none else some (n, a + 1 + r)

theorem tailR_short {xs : List Int} {k p : Nat} {n : Int} (hk : 0 < k) (h : xs.length < p + k) : tailR xs k p n = none := by
  induction k generalizing p n with
  | zero => omega
  | succ k ih =>
    simp only [tailR]
    split
    · rfl
    · rename_i c hc
      split
      · have := (List.getElem?_eq_some_iff.1 hc).1
        exact ih (by omega) (by omega)
      · rfl
theorem tailR_bad {xs : List Int} {k p : Nat} {n c : Int} (hc : xs[p]? = some c) (h : c < 128 ∨ 191 < c) : tailR xs (k + 1) p n = none := by
  simp only [tailR, hc]
  rw [if_neg (by omega)]
theorem tailR_good {xs : List Int} {k p : Nat} {n c : Int} (hc : xs[p]? = some c) (h0 : 128 ≤ c) (h1 : c ≤ 191) : tailR xs (k + 1) p n = tailR xs k (p + 1) (n * 64 + c - 128) := by
  simp only [tailR, hc]
  rw [if_pos ⟨h0, h1⟩]
theorem decR_none {xs : List Int} {a r : Nat} {x f lim : Int} (h : tailR xs r (a + 1) (x - f) = none) : decR xs a x f lim r = none := by simp [decR, h]
theorem decR_short {xs : List Int} {a r : Nat} {x f lim : Int} (h : xs.length - a ≤ r) (ha : a < xs.length) : decR xs a x f lim r = none := decR_none (tailR_short (by omega) (by omega))
theorem val_len {xs : List Int} (h : valB xs = true) : xs.length ≤ 2048 := by unfold valB at h; simp at h; exact h.1
theorem Ints.cell {w : World} {b off len : Nat} {xs : List Int} (h : Ints w (some ⟨b, off, none⟩) len xs) {k : Nat} {x : Int} (hx : xs[k]? = some x) : w.cell? ⟨b, off + k, none⟩ = some (.int .i64 x) := by
  rcases h.2 with h | ⟨b', off', e, hc⟩
  · subst h; simp at hx
  · injection e with e; injection e with e1 e2; subst e1; subst e2; exact hc k x hx

/-- What a reading gives. -/
def Got (o : Option (Int × Nat)) (w : World) (e : Ending) (w' : World) : Prop :=
  e = .returned (match o with | none => .tuple #[.int .i64 0, .int .i64 0, .bool false] | some p => .tuple #[.int .i64 p.1, .int .i64 (p.2 : Int), .bool true]) ∧ w.grownBy w' none

end Go.Proofs.YtfncgegglpigkaaDoor
