/-
  PutBits of the specification: what it gives for all arguments; both texts give one result.
-/
import Derived.Test.YtdbneenlejgjcaaDoorIPut
namespace Go.Proofs.YtdbneenlejgjcaaDoor
open Go.RowKit


theorem pow32 (n : Nat) (h : n ≤ 32) : (1 : Int) ≤ 2 ^ n ∧ (2 : Int) ^ n ≤ 4294967296 := by
  have h1 : (2 : Nat) ^ n ≤ 4294967296 := Nat.le_trans (Nat.pow_le_pow_right (by decide) h) (by decide)
  have h2 : 1 ≤ (2 : Nat) ^ n := Nat.one_le_two_pow
  have e : (2 : Int) ^ n = ((2 ^ n : Nat) : Int) := by simp
  rw [e]
  omega
/-! Both texts. -/
structure Errs (w : World) : Prop where
  num : ErrAt w 0
  bits : ErrAt w 3
  room : ErrAt w 1
theorem Errs.grown {w w' : World} (h : Errs w) (hg : w.grownBy w' none) : Errs w' := ⟨h.num.grown hg, h.bits.grown hg, h.room.grown hg⟩

/-- Bits, or none. -/
def Gave (o : Option (List Bool)) (w : World) (e : Ending) (w' : World) : Prop := match o with
  | some bs => GaveBits bs w e w'
  | none => GaveNone w e w'

end Go.Proofs.YtdbneenlejgjcaaDoor
