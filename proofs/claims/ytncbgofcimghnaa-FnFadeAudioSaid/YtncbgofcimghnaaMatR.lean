/-
  Lists of lists of numbers that can be read, in blocks from a base on: what stands while other blocks are written. No condition.
-/
import Derived.Test.YtncbgofcimghnaaMatM
import Derived.Test.YtncbgofcimghnaaDraw
namespace Go.Proofs.Ytncbgofcimghnaa
open Go.RowKit

/-- A slice value reads as one row of numbers, in blocks from base on. -/
def RowB (w : World) (base : Nat) (u : Value) (xs : List Int) : Prop :=
  ∃ (a : Option Addr) (c : Nat), u = .slice a xs.length c ∧ Ints w a xs.length xs ∧ xs.length ≤ c ∧ c ≤ 9223372036854775807 ∧ (a = none → c = 0) ∧ ∀ x, a = some x → base ≤ x.block ∧ x.block < w.heap.size
theorem RowB.kept {w w' : World} {base : Nat} {u : Value} {xs : List Int} {row : Option Nat} (h : RowB w base u xs) (hg : w.grownBy w' row) (hr : ∀ g, row = some g → g < base) : RowB w' base u xs := by
  obtain ⟨a, c, h1, h2, h3, h4, h5, h6⟩ := h
  exact ⟨a, c, h1, h2.kept hg (fun x hx e => by have := hr _ e; have := (h6 x hx).1; omega), h3, h4, h5, fun x hx => ⟨(h6 x hx).1, Nat.lt_of_lt_of_le (h6 x hx).2 hg.size⟩⟩
/-- Another block may be written. -/
theorem RowB.far {w w' : World} {base g : Nat} {u : Value} {xs : List Int} (h : RowB w base u xs) (hg : w.grownBy w' (some g)) (hne : u.ownBlock ≠ some g) : RowB w' base u xs := by
  obtain ⟨a, c, h1, h2, h3, h4, h5, h6⟩ := h
  subst h1
  refine ⟨a, c, rfl, ?_, h3, h4, h5, fun x hx => ⟨(h6 x hx).1, Nat.lt_of_lt_of_le (h6 x hx).2 hg.size⟩⟩
  refine h2.kept hg (fun x hx e => hne ?_)
  subst hx
  injection e with e
  simp [Value.ownBlock, e]
theorem RowB.at {w : World} {base : Nat} {u : Value} {xs : List Int} (h : RowB w base u xs) : RowAt w u xs := by
  obtain ⟨a, c, h1, h2, h3, h4, h5, _⟩ := h
  exact ⟨a, c, h1, h2, h3, h4, h5⟩
theorem RowB.base_le {w : World} {base base' : Nat} {u : Value} {xs : List Int} (h : RowB w base u xs) (hb : base' ≤ base) : RowB w base' u xs := by
  obtain ⟨a, c, h1, h2, h3, h4, h5, h6⟩ := h
  exact ⟨a, c, h1, h2, h3, h4, h5, fun x hx => ⟨by have := (h6 x hx).1; omega, (h6 x hx).2⟩⟩
theorem Owns.rowB {w : World} {base n : Nat} {u : Value} {xs : List Int} (h : Owns w base u n xs) : RowB w base u xs := by
  have hl := h.len_eq
  subst hl
  obtain ⟨a, c, e, h1, h2, h3, h4⟩ := h.reads
  rcases h.2 with ⟨hv, h0⟩ | ⟨g, cap, cur, hv, _, _, hnc, hcm, _⟩
  · rw [hv] at e
    injection e with e1 e2 e3
    refine ⟨a, c, by rw [hv, ← e1, ← e2, ← e3], h3, by omega, by omega, h2, h4⟩
  · rw [hv] at e
    injection e with e1 e2 e3
    subst e3
    refine ⟨a, cap, by rw [hv, ← e1], h3, h1, by unfold maxLen at hcm; omega, h2, h4⟩
theorem rowB_of {w : World} {base len cap : Nat} {ao : Option Addr} {xs : List Int} (h : Ints w ao len xs) (h1 : len ≤ cap) (h2 : cap ≤ 9223372036854775807) (h3 : ao = none → cap = 0) (h4 : ∀ x, ao = some x → base ≤ x.block ∧ x.block < w.heap.size) : RowB w base (.slice ao len cap) xs := by
  have hl := h.1
  subst hl
  exact ⟨ao, cap, rfl, h, h1, h2, h3, h4⟩

/-- A slice of slices with this address and length reads as the lists, in blocks from base on. -/
def MatB (w : World) (base : Nat) (ao : Option Addr) (len : Nat) (xss : List (List Int)) : Prop :=
  xss.length = len ∧ (xss = [] ∨ ∃ (b off : Nat), ao = some ⟨b, off, none⟩ ∧ base ≤ b ∧ ∀ (k : Nat) (xs : List Int), xss[k]? = some xs → ∃ u, w.cell? ⟨b, off + k, none⟩ = some u ∧ RowB w base u xs)
theorem MatB.kept {w w' : World} {base : Nat} {ao : Option Addr} {len : Nat} {xss : List (List Int)} {row : Option Nat} (h : MatB w base ao len xss) (hg : w.grownBy w' row) (hr : ∀ g, row = some g → g < base) : MatB w' base ao len xss := by
  refine ⟨h.1, ?_⟩
  rcases h.2 with h | ⟨b, off, ha, hb, hc⟩
  · exact Or.inl h
  · refine Or.inr ⟨b, off, ha, hb, fun k xs hx => ?_⟩
    obtain ⟨u, hu, hr'⟩ := hc k xs hx
    exact ⟨u, hg.cell hu (fun e => by have := hr _ e.symm; simp at this; omega), hr'.kept hg hr⟩
theorem MatB.mat {w : World} {base : Nat} {ao : Option Addr} {len : Nat} {xss : List (List Int)} (h : MatB w base ao len xss) : Mat w ao len xss := by
  refine ⟨h.1, ?_⟩
  rcases h.2 with h | ⟨b, off, ha, _, hc⟩
  · exact Or.inl h
  · refine Or.inr ⟨b, off, ha, fun k xs hx => ?_⟩
    obtain ⟨u, hu, hr⟩ := hc k xs hx
    exact ⟨u, hu, hr.at⟩
theorem MatB.base_le {w : World} {base base' : Nat} {ao : Option Addr} {len : Nat} {xss : List (List Int)} (h : MatB w base ao len xss) (hb : base' ≤ base) : MatB w base' ao len xss := by
  refine ⟨h.1, ?_⟩
  rcases h.2 with h | ⟨b, off, ha, h1, hc⟩
  · exact Or.inl h
  · refine Or.inr ⟨b, off, ha, by omega, fun k xs hx => ?_⟩
    obtain ⟨u, hu, hr⟩ := hc k xs hx
    exact ⟨u, hu, hr.base_le hb⟩
theorem matB_nil (w : World) (base : Nat) (ao : Option Addr) : MatB w base ao 0 [] := ⟨rfl, Or.inl rfl⟩
/-- One row, or two, in one block. -/
theorem matB_one {w : World} {base b : Nat} {u : Value} {xs : List Int} (hb : base ≤ b) (hc : w.cell? ⟨b, 0, none⟩ = some u) (h : RowB w base u xs) : MatB w base (some ⟨b, 0, none⟩) 1 [xs] := by
  refine ⟨rfl, Or.inr ⟨b, 0, rfl, hb, fun k ys hk => ?_⟩⟩
  match k, hk with
  | 0, hk => simp at hk; subst hk; exact ⟨u, hc, h⟩
theorem matB_two {w : World} {base b : Nat} {u v : Value} {xs ys : List Int} (hb : base ≤ b) (hc : w.cell? ⟨b, 0, none⟩ = some u) (hd : w.cell? ⟨b, 1, none⟩ = some v) (h : RowB w base u xs) (k : RowB w base v ys) : MatB w base (some ⟨b, 0, none⟩) 2 [xs, ys] := by
  refine ⟨rfl, Or.inr ⟨b, 0, rfl, hb, fun j zs hj => ?_⟩⟩
  match j, hj with
  | 0, hj => simp at hj; subst hj; exact ⟨u, hc, h⟩
  | 1, hj => simp at hj; subst hj; exact ⟨v, hd, k⟩

/-- Drawn audio: what it reads as; the reader has gone on. -/
def DrewAu (r P : Nat) (w : World) (e : Ending) (w' : World) : Prop :=
  ∃ (p q : Int) (ao : Option Addr) (len cap : Nat) (xss : List (List Int)), e = .returned (.agg #[.int .i64 p, .int .i64 q, .slice ao len cap]) ∧ MatB w' w.heap.size ao len xss ∧ len ≤ 2 ∧ szL xss ≤ 1000 ∧ Rdr w' r P ∧ w.grownBy w' (some r)

end Go.Proofs.Ytncbgofcimghnaa
