/-
  No candidate costs less than the best, as mathematics; sums of squares from the end.
-/
import Derived.Test.YtgiiaijlahjfnaaLbS
namespace Go.Proofs.Ytgiiaijlahjfnaa
open Go.RowKit

/-- The sum of the squares of the last k numbers. -/
def enT (ys : List Int) : Nat → Int
  | 0 => 0
  | k + 1 => enT ys k + ys.getD (ys.length - (k + 1)) 0 * ys.getD (ys.length - (k + 1)) 0
theorem enS_cons (y : Int) (ys : List Int) (k : Nat) : enS (y :: ys) (k + 1) = y * y + enS ys k := by
  induction k with
  | zero => simp [enS]
  | succ k ih =>
    show enS (y :: ys) (k + 1) + (y :: ys).getD (k + 1) 0 * (y :: ys).getD (k + 1) 0 = y * y + (enS ys k + ys.getD k 0 * ys.getD k 0)
    rw [ih]
    have : (y :: ys).getD (k + 1) 0 = ys.getD k 0 := by simp
    rw [this]; omega
theorem enT_drop (ys : List Int) (k : Nat) (hk : k ≤ ys.length) : enT ys k = enS (ys.drop (ys.length - k)) k := by
  induction k with
  | zero => rfl
  | succ k ih =>
    obtain ⟨y, hy⟩ : ∃ y, ys[ys.length - (k + 1)]? = some y := ⟨_, List.getElem?_eq_getElem (by omega)⟩
    have hd : ys.drop (ys.length - (k + 1)) = y :: ys.drop (ys.length - k) := by
      obtain ⟨hl, he⟩ := List.getElem?_eq_some_iff.1 hy
      rw [List.drop_eq_getElem_cons hl, he, show ys.length - (k + 1) + 1 = ys.length - k by omega]
    rw [hd, enS_cons]
    simp only [enT]
    rw [ih (by omega), List.getD_eq_getElem?_getD, hy]
    simp only [Option.getD_some]
    omega
theorem enT_range {ys : List Int} (h : allB ys (-4194303) 4194303 = true) (k : Nat) : 0 ≤ enT ys k ∧ enT ys k ≤ k * 17592177655809 := by
  induction k with
  | zero => simp [enT]
  | succ k ih =>
    have h1 := getD_rangeR h (ys.length - (k + 1))
    have h2 := sq_range h1.1 h1.2
    simp only [enT]
    omega
theorem bestS_cost {xs : List Int} {ls : List LinV} {j k : Nat} (h : (bestS xs ls k).1 = (j : Int)) : ∃ l, ls[j]? = some l ∧ lrOk xs l.cs l.sh = true ∧ (bestS xs ls k).2 = cost xs l := by
  induction k with
  | zero => simp [bestS] at h
  | succ k ih =>
    cases hl : ls[k]? with
    | none =>
      have e : bestS xs ls (k + 1) = bestS xs ls k := by simp [bestS, hl]
      rw [e] at h ⊢; exact ih h
    | some l =>
      cases hok : lrOk xs l.cs l.sh with
      | false => rw [bestS_skip hl hok] at h ⊢; exact ih h
      | true =>
        by_cases hc : (bestS xs ls k).1 < 0 ∨ cost xs l < (bestS xs ls k).2
        · rw [bestS_take hl hok rfl hc] at h ⊢
          have e2 : k = j := by have : (k : Int) = (j : Int) := h; omega
          subst e2
          exact ⟨l, hl, hok, rfl⟩
        · rw [bestS_keep hl rfl hc] at h ⊢; exact ih h
theorem bestS_least {xs : List Int} {ls : List LinV} {k i : Nat} {l : LinV} (hi : i < k) (hl : ls[i]? = some l) (hok : lrOk xs l.cs l.sh = true) : 0 ≤ (bestS xs ls k).1 ∧ ((bestS xs ls k).2 < cost xs l ∨ ((bestS xs ls k).2 = cost xs l ∧ (bestS xs ls k).1 ≤ i)) := by
  induction k with
  | zero => omega
  | succ k ih =>
    cases hlk : ls[k]? with
    | none =>
      have e : bestS xs ls (k + 1) = bestS xs ls k := by simp [bestS, hlk]
      rw [e]
      by_cases hik : i = k
      · subst hik; rw [hl] at hlk; cases hlk
      · exact ih (by omega)
    | some l2 =>
      cases hok2 : lrOk xs l2.cs l2.sh with
      | false =>
        rw [bestS_skip hlk hok2]
        by_cases hik : i = k
        · subst hik; rw [hl] at hlk; injection hlk with e; subst e; rw [hok] at hok2; cases hok2
        · exact ih (by omega)
      | true =>
        by_cases hc : (bestS xs ls k).1 < 0 ∨ cost xs l2 < (bestS xs ls k).2
        · rw [bestS_take hlk hok2 rfl hc]
          by_cases hik : i = k
          · subst hik; rw [hl] at hlk; injection hlk with e; subst e
            exact ⟨by show (0 : Int) ≤ (i : Int); omega, Or.inr ⟨rfl, Int.le_refl _⟩⟩
          · obtain ⟨h1, h2⟩ := ih (by omega)
            refine ⟨by show (0 : Int) ≤ (k : Int); omega, Or.inl ?_⟩
            show cost xs l2 < cost xs l
            rcases h2 with h2 | h2 <;> omega
        · rw [bestS_keep hlk rfl hc]
          by_cases hik : i = k
          · subst hik; rw [hl] at hlk; injection hlk with e; subst e
            have hat := bestS_at xs ls i
            refine ⟨by show 0 ≤ (bestS xs ls i).1; omega, ?_⟩
            show (bestS xs ls i).2 < cost xs l ∨ ((bestS xs ls i).2 = cost xs l ∧ (bestS xs ls i).1 ≤ i)
            omega
          · exact ih (by omega)

end Go.Proofs.Ytgiiaijlahjfnaa
