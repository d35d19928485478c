/-
  The best linear predictor, as mathematics; lists of predictors in memory.
-/
import Derived.Test.YtgiiaijlahjfnaaLinJ2
import Derived.Test.YtgiiaijlahjfnaaAuto
namespace Go.Proofs.Ytgiiaijlahjfnaa
open Go.RowKit

structure LinV where
  ao : Option Addr
  n : Nat
  cap : Nat
  cs : List Int
  sh : Int

def Lins (w : World) (ao : Option Addr) (len : Nat) (ls : List LinV) : Prop :=
  ls.length = len ∧ (ls = [] ∨ ∃ b off, ao = some ⟨b, off, none⟩ ∧ ∀ k l, ls[k]? = some l → w.cell? ⟨b, off + k * 2, none⟩ = some (.slice l.ao l.n l.cap) ∧ w.cell? ⟨b, off + k * 2 + 1, none⟩ = some (.int .i64 l.sh) ∧ Ints w l.ao l.n l.cs ∧ l.n ≤ 4611686018427387904)
theorem Lins.grown {w w' : World} {ao : Option Addr} {len : Nat} {ls : List LinV} (h : Lins w ao len ls) (hg : w.grownBy w' none) : Lins w' ao len ls := by
  refine ⟨h.1, ?_⟩
  rcases h.2 with e | ⟨b, off, e, hc⟩
  · exact Or.inl e
  · exact Or.inr ⟨b, off, e, fun k l hl => by
      obtain ⟨h1, h2, h3, h4⟩ := hc k l hl
      exact ⟨hg.cell h1 (by simp), hg.cell h2 (by simp), h3.grown hg, h4⟩⟩

/-- The sum of the squares of the first k numbers. -/
def enS (ys : List Int) : Nat → Int
  | 0 => 0
  | k + 1 => enS ys k + ys.getD k 0 * ys.getD k 0
theorem sq_range {x : Int} (h0 : -4194303 ≤ x) (h1 : x ≤ 4194303) : 0 ≤ x * x ∧ x * x ≤ 17592177655809 := by
  rcases Int.le_total 0 x with h | h
  · have := mul_range (A := 4194303) (B := 4194303) (by omega) h1 h h1 (by omega); exact ⟨Int.mul_nonneg h h, by omega⟩
  · have h2 : 0 ≤ -x := by omega
    have := mul_range (A := 4194303) (B := 4194303) (a := -x) (b := -x) (by omega) (by omega) h2 (by omega) (by omega)
    rw [Int.neg_mul_neg] at this
    exact ⟨by rw [← Int.neg_mul_neg]; exact Int.mul_nonneg h2 h2, by omega⟩
theorem getD_rangeR {ys : List Int} (h : allB ys (-4194303) 4194303 = true) (k : Nat) : -4194303 ≤ ys.getD k 0 ∧ ys.getD k 0 ≤ 4194303 := by
  rw [List.getD_eq_getElem?_getD]
  cases hk : ys[k]? with
  | none => simp
  | some y => exact allB_mem h hk
theorem enS_range {ys : List Int} (h : allB ys (-4194303) 4194303 = true) (k : Nat) : 0 ≤ enS ys k ∧ enS ys k ≤ k * 17592177655809 := by
  induction k with
  | zero => simp [enS]
  | succ k ih =>
    have h1 := getD_rangeR h k
    have h2 := sq_range h1.1 h1.2
    simp only [enS]
    omega

def cost (xs : List Int) (l : LinV) : Int := enS ((resL l.cs l.sh.toNat xs).drop ((resL l.cs l.sh.toNat xs).length - (xs.length - 8))) (xs.length - 8)
/-- The best of the first k candidates, and its cost. -/
def bestS (xs : List Int) (ls : List LinV) : Nat → Int × Int
  | 0 => (-1, 0)
  | k + 1 => match ls[k]? with
    | none => bestS xs ls k
    | some l => if lrOk xs l.cs l.sh = true ∧ ((bestS xs ls k).1 < 0 ∨ cost xs l < (bestS xs ls k).2) then ((k : Int), cost xs l) else bestS xs ls k
theorem bestS_skip {xs : List Int} {ls : List LinV} {k : Nat} {l : LinV} (hl : ls[k]? = some l) (h : lrOk xs l.cs l.sh = false) : bestS xs ls (k + 1) = bestS xs ls k := by
  simp [bestS, hl, h]
theorem bestS_take {xs : List Int} {ls : List LinV} {k : Nat} {l : LinV} {a m : Int} (hl : ls[k]? = some l) (h : lrOk xs l.cs l.sh = true) (hb : bestS xs ls k = (a, m)) (hc : a < 0 ∨ cost xs l < m) : bestS xs ls (k + 1) = ((k : Int), cost xs l) := by
  simp only [bestS, hl, hb]
  rw [if_pos ⟨h, hc⟩]
theorem bestS_keep {xs : List Int} {ls : List LinV} {k : Nat} {l : LinV} {a m : Int} (hl : ls[k]? = some l) (hb : bestS xs ls k = (a, m)) (hc : ¬ (a < 0 ∨ cost xs l < m)) : bestS xs ls (k + 1) = (a, m) := by
  simp only [bestS, hl, hb]
  rw [if_neg (fun h => hc h.2)]
def bestZ (xs : List Int) (ls : List LinV) : Int := if vS xs = true ∧ ls.length ≤ 12 then (bestS xs ls ls.length).1 else -1
theorem bestS_no {xs : List Int} (h : vS xs = false) (ls : List LinV) (k : Nat) : bestS xs ls k = (-1, 0) := by
  induction k with
  | zero => rfl
  | succ k ih =>
    cases hl : ls[k]? with
    | none => simp [bestS, hl, ih]
    | some l => rw [bestS_skip hl (by unfold lrOk; rw [h]; rfl), ih]
/-- What a candidate that can be used leaves: the numbers that count. -/
theorem cost_of {xs ys : List Int} {l : LinV} {m : Nat} (h : LR xs l.cs l.sh ys m true) : Hid (enS (ys.drop (m - (xs.length - 8))) (xs.length - 8) = cost xs l ∧ allB ys (-4194303) 4194303 = true ∧ xs.length - 8 ≤ m ∧ m ≤ 64 ∧ ys.length = m) := by
  have hok := h.1
  have hok2 := hok
  unfold lrOk at hok2
  simp only [Bool.and_eq_true, decide_eq_true_eq] at hok2
  obtain ⟨⟨⟨hvs, hvl⟩, hcl⟩, hvr⟩ := hok2
  obtain ⟨hv1, hv8, _⟩ := vLin_in hvl
  have hy : lrR xs l.cs l.sh = ys := h.2.1
  have hm : xs.length - l.cs.length = m := by have := h.2.2; rw [if_pos rfl] at this; exact this
  unfold lrR at hy
  rw [hok, if_pos rfl] at hy
  have hlen := vS_len hvs
  subst hy
  have hrl := resL_len l.cs l.sh.toNat xs
  refine ⟨?_, vR_all hvr, by omega, by omega, by omega⟩
  unfold cost
  rw [hrl, hm]

end Go.Proofs.Ytgiiaijlahjfnaa
