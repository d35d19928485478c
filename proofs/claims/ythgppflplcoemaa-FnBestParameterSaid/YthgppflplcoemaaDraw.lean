/-
  The draws of lists of bytes: what 'randomBytes', 'spoil' and 'anyBytes' give. For every code.
-/
import Derived.Test.YthgppflplcoemaaOwn
import Derived.Deep.LoopGhost
namespace Go.Proofs.Ythgppflplcoemaa
open Go.RowKit


/-- A drawn list of at most L numbers, in new memory; the reader has gone on. -/
def DrewL (L r P : Nat) (w : World) (e : Ending) (w' : World) : Prop :=
  ∃ (v : Value) (len : Nat) (xs : List Int), e = .returned v ∧ len ≤ L ∧ Owns w' w.heap.size v len xs ∧ Rdr w' r P ∧ w.grownBy w' (some r)

/-- A drawn list that may be a part of its array; the reader has gone on. -/
def DrewR (L r P : Nat) (w : World) (e : Ending) (w' : World) : Prop :=
  ∃ (ao : Option Addr) (len cap : Nat) (xs : List Int), e = .returned (.slice ao len cap) ∧ len ≤ L ∧ len ≤ cap ∧ (ao = none → cap = 0) ∧ Ints w' ao len xs ∧
    (∀ a, ao = some a → w.heap.size ≤ a.block ∧ a.block < w'.heap.size) ∧ Rdr w' r P ∧ w.grownBy w' (some r)

theorem drewR_of {L r P len : Nat} {v : Value} {xs : List Int} {w w' : World} (h : len ≤ L) (ho : Owns w' w.heap.size v len xs) (hR : Rdr w' r P) (hg : w.grownBy w' (some r)) : DrewR L r P w (.returned v) w' := by
  obtain ⟨ao, cap, rfl, h1, h2, h3, h4⟩ := ho.reads
  exact ⟨ao, len, cap, xs, rfl, h, h1, h2, h3, h4, hR, hg⟩

theorem owns_tail {w : World} {base len g cap : Nat} {xs : List Int} (h : Owns w base (.slice (some ⟨g, 0, none⟩) len cap) len xs) (_h0 : 0 < len) :
    Ints w (some ⟨g, 1, none⟩) (len - 1) xs.tail := by
  have hl := h.len_eq
  refine ⟨by simp; omega, Or.inr ⟨g, 1, rfl, fun k x hx => ?_⟩⟩
  have hx' : xs[k + 1]? = some x := by rw [← List.getElem?_tail]; exact hx
  have hlt := (List.getElem?_eq_some_iff.1 hx').1
  rw [World.ownsRow.cellAt h (1 + k) (by omega), List.getElem?_map, Nat.add_comm 1 k, hx']; rfl

theorem DrewR.weaken {L L' r P P' : Nat} {w w' : World} {e : Ending} (h : DrewR L r P w e w') (hL : L ≤ L') (hP : P ≤ P') : DrewR L' r P' w e w' := by
  obtain ⟨ao, len, cap, xs, h1, h2, h3, h4, h5, h6, h7, h8⟩ := h
  exact ⟨ao, len, cap, xs, h1, by omega, h3, h4, h5, h6, h7.mono hP, h8⟩

/-- A list that is drawn out of a code: new memory, and nothing old is written. -/
def Drew (L : Nat) (w : World) (e : Ending) (w' : World) : Prop :=
  ∃ (ao : Option Addr) (len cap : Nat) (xs : List Int), e = .returned (.slice ao len cap) ∧ len ≤ L ∧ len ≤ cap ∧ (ao = none → cap = 0) ∧ Ints w' ao len xs ∧
    (∀ a, ao = some a → w.heap.size ≤ a.block ∧ a.block < w'.heap.size) ∧ w.grownBy w' none

end Go.Proofs.Ythgppflplcoemaa
