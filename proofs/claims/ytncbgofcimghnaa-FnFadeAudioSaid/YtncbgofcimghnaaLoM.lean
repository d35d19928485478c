/-
  Loudness as plain mathematics: sums of squares, windows, the greatest window. No condition but the ranges that are named.
-/
import Derived.Test.YtncbgofcimghnaaLvM
namespace Go.Proofs.Ytncbgofcimghnaa
open Go.RowKit

/-- The sum of the squares of the first k numbers. -/
def sq (xs : List Int) : Nat → Int
  | 0 => 0
  | k + 1 => sq xs k + xs.getD k 0 * xs.getD k 0
theorem getD_is {xs : List Int} {k : Nat} {x : Int} (h : xs[k]? = some x) : xs.getD k 0 = x := by rw [List.getD_eq_getElem?_getD, h]; rfl
theorem sqr_range {x B : Int} (h : -B ≤ x) (h' : x ≤ B) : 0 ≤ x * x ∧ x * x ≤ B * B := by
  have h0 : 0 ≤ B := by omega
  constructor
  · rcases Int.le_total 0 x with h | h
    · exact Int.mul_nonneg h h
    · exact Int.mul_nonneg_of_nonpos_of_nonpos h h
  · rcases Int.le_total 0 x with h2 | h2
    · exact Int.mul_le_mul h' h' h2 h0
    · have : (-x) * (-x) ≤ B * B := Int.mul_le_mul (by omega) (by omega) (by omega) h0
      rwa [Int.neg_mul_neg] at this
theorem sq_mono {xs : List Int} (k : Nat) : 0 ≤ sq xs k ∧ sq xs k ≤ sq xs (k + 1) := by
  have h : ∀ k, sq xs k ≤ sq xs (k + 1) := fun k => by
    have : 0 ≤ xs.getD k 0 * xs.getD k 0 := by
      rcases Int.le_total 0 (xs.getD k 0) with h | h
      · exact Int.mul_nonneg h h
      · exact Int.mul_nonneg_of_nonpos_of_nonpos h h
    show sq xs k ≤ sq xs k + _
    omega
  refine ⟨?_, h k⟩
  induction k with
  | zero => exact Int.le_refl _
  | succ k ih => exact Int.le_trans ih (h k)
theorem sq_le {xs : List Int} {k j : Nat} (h : k ≤ j) : sq xs k ≤ sq xs j := by
  induction j with
  | zero => obtain rfl : k = 0 := by omega
            exact Int.le_refl _
  | succ j ih =>
    by_cases hk : k = j + 1
    · subst hk; exact Int.le_refl _
    · exact Int.le_trans (ih (by omega)) (sq_mono j).2
theorem sq_range {xs : List Int} (h : ∀ x ∈ xs, -32768 ≤ x ∧ x ≤ 32768) (k : Nat) (hk : k ≤ 256) : 0 ≤ sq xs k ∧ sq xs k ≤ 274877906944 := by
  have : ∀ k : Nat, sq xs k ≤ 1073741824 * (k : Int) := by
    intro k
    induction k with
    | zero => exact Int.le_refl _
    | succ k ih =>
      have hx : -32768 ≤ xs.getD k 0 ∧ xs.getD k 0 ≤ 32768 := by
        rw [List.getD_eq_getElem?_getD]
        cases e : xs[k]? with
        | none => simp
        | some x => exact h x (List.mem_of_getElem? e)
      have := (sqr_range hx.1 hx.2).2
      show sq xs k + _ ≤ _
      omega
  have := this k
  exact ⟨(sq_mono k).1, by omega⟩
theorem sq_drop (xs : List Int) (f : Nat) : ∀ k, sq (xs.drop f) k = sq xs (f + k) - sq xs f := by
  intro k
  induction k with
  | zero => simp [sq]
  | succ k ih =>
    have e : (xs.drop f).getD k 0 = xs.getD (f + k) 0 := by simp [List.getD_eq_getElem?_getD, List.getElem?_drop]
    show sq (xs.drop f) k + _ = sq xs (f + (k + 1)) - _
    rw [ih, e, show f + (k + 1) = (f + k) + 1 by omega]
    show _ = sq xs (f + k) + _ - _
    omega
theorem sq_take (xs : List Int) (n : Nat) : ∀ k, k ≤ n → sq (xs.take n) k = sq xs k := by
  intro k
  induction k with
  | zero => intro _; rfl
  | succ k ih =>
    intro hk
    have e : (xs.take n).getD k 0 = xs.getD k 0 := by simp [List.getD_eq_getElem?_getD, show k < n by omega]
    show sq (xs.take n) k + _ = sq xs k + _
    rw [ih (by omega), e]

/-- The greatest sum of the first j windows; and the greatest mean. -/
def mxW (xs : List Int) (w : Nat) : Nat → Int
  | 0 => 0
  | j + 1 => max (mxW xs w j) (sq xs (j + w) - sq xs j)
def mxD (xs : List Int) (w : Nat) : Nat → Int
  | 0 => 0
  | j + 1 => max (mxD xs w j) ((sq xs (j + w) - sq xs j) / (w : Int))
theorem max_div {a b w : Int} (hw : 0 < w) : max a b / w = max (a / w) (b / w) := by
  rcases Int.le_total a b with h | h
  · have := Int.ediv_le_ediv hw h
    rw [show max a b = b by omega]; omega
  · have := Int.ediv_le_ediv hw h
    rw [show max a b = a by omega]; omega
theorem mxD_eq (xs : List Int) {w : Nat} (hw : 0 < w) (j : Nat) : mxD xs w j = mxW xs w j / (w : Int) := by
  induction j with
  | zero => simp [mxD, mxW]
  | succ j ih => show max (mxD xs w j) _ = max (mxW xs w j) _ / _; rw [max_div (by omega), ih]
theorem mxW_range {xs : List Int} (h : ∀ x ∈ xs, -32768 ≤ x ∧ x ≤ 32768) (w : Nat) : ∀ j, j + w ≤ 257 → 0 ≤ mxW xs w j ∧ mxW xs w j ≤ 274877906944 := by
  intro j
  induction j with
  | zero => intro _; simp [mxW]
  | succ j ih =>
    intro hj
    have h1 := ih (by omega)
    have h2 := sq_range h (j + w) (by omega)
    have h3 := sq_range h j (by omega)
    have h4 := sq_le (xs := xs) (show j ≤ j + w by omega)
    show 0 ≤ max _ _ ∧ max _ _ ≤ _
    omega
theorem mxD_range {xs : List Int} (h : ∀ x ∈ xs, -32768 ≤ x ∧ x ≤ 32768) {w : Nat} (hw : 0 < w) (j : Nat) (hj : j + w ≤ 257) : 0 ≤ mxD xs w j ∧ mxD xs w j ≤ 274877906944 := by
  rw [mxD_eq xs hw]
  have := mxW_range h w j hj
  exact ⟨Int.ediv_nonneg this.1 (by omega), Int.le_trans (Int.ediv_le_self _ this.1) this.2⟩

/-- The loudest window of a channel, and of all channels. -/
def louL (w : Nat) (xs : List Int) : Int := mxW xs w (xs.length + 1 - w)
def louS (w : Nat) (m : Int) (xss : List (List Int)) : Int := xss.foldl (fun m xs => max m (louL w xs / (w : Int))) m
theorem louS_take {w : Nat} {m : Int} {xss : List (List Int)} {k : Nat} {xs : List Int} (h : xss[k]? = some xs) : louS w m (xss.take (k + 1)) = max (louS w m (xss.take k)) (louL w xs / (w : Int)) := by
  unfold louS; rw [List.take_add_one, h, List.foldl_append]; rfl
theorem louS_div {w : Nat} (hw : 0 < w) (xss : List (List Int)) : ∀ m : Int, louS w (m / (w : Int)) xss = (xss.foldl (fun m xs => max m (louL w xs)) m) / (w : Int) := by
  induction xss with
  | nil => intro m; rfl
  | cons xs xss ih =>
    intro m
    show louS w (max (m / (w : Int)) (louL w xs / (w : Int))) xss = _
    rw [← max_div (by omega), ih]; rfl
/-- What LoudnessOf says. -/
def louV (r d : Int) (xss : List (List Int)) (win : Int) : Int := if vAu r d xss = true ∧ 1 ≤ win ∧ win ≤ 256 then louS win.toNat 0 xss else -1
theorem louV_no {r d : Int} {xss : List (List Int)} {win : Int} (h : ¬ (vAu r d xss = true ∧ 1 ≤ win ∧ win ≤ 256)) : louV r d xss win = -1 := if_neg h
theorem louV_yes {r d : Int} {xss : List (List Int)} {w : Nat} (h : vAu r d xss = true) (h1 : 1 ≤ w) (h2 : w ≤ 256) : louV r d xss (w : Int) = louS w 0 xss := by
  unfold louV; rw [if_pos ⟨h, by omega, by omega⟩, Int.toNat_natCast]

theorem va_rows {r d : Int} {xss : List (List Int)} {u H : Nat} (h : VA r d xss u H) (k : Nat) (xs : List Int) (hk : xss[k]? = some xs) : xs.length ≤ 256 ∧ ∀ x ∈ xs, -32768 ≤ x ∧ x ≤ 32768 := by
  have h1 := h.row k xs hk
  have h2 := allB_abs h1.2 xs.length
  rw [List.take_length] at h2
  have h3 := h.pow.2
  exact ⟨by rw [h1.1]; exact h.hh, fun x hx => by have := h2 x hx; omega⟩
theorem lou_range {xs : List Int} {w : Nat} (h : ∀ x ∈ xs, -32768 ≤ x ∧ x ≤ 32768) (hl : xs.length ≤ 256) (h0 : 1 ≤ w) (h1 : w ≤ 256) : 0 ≤ louL w xs / (w : Int) ∧ louL w xs / (w : Int) ≤ 274877906944 := by
  unfold louL
  rw [← mxD_eq xs (by omega)]
  by_cases hw : w ≤ xs.length
  · exact mxD_range h (by omega) _ (by omega)
  · rw [show xs.length + 1 - w = 0 by omega]; simp [mxD]
theorem lou_range' {xs : List Int} {w : Nat} (h : ∀ x ∈ xs, -32768 ≤ x ∧ x ≤ 32768) (hl : xs.length ≤ 256) : 0 ≤ louL w xs ∧ louL w xs ≤ 274877906944 := by
  unfold louL
  by_cases hw : w ≤ xs.length
  · exact mxW_range h w _ (by omega)
  · by_cases hw2 : w = xs.length + 1
    · rw [show xs.length + 1 - w = 0 by omega]; simp [mxW]
    · rw [show xs.length + 1 - w = 0 by omega]; simp [mxW]

theorem ints_sub {w : World} {b off n : Nat} {xs : List Int} (h : Ints w (some ⟨b, off, none⟩) n xs) (f m : Nat) (hf : f + m ≤ n) : Ints w (some ⟨b, off + f, none⟩) m ((xs.drop f).take m) := by
  have hl := h.1
  refine ⟨by simp; omega, ?_⟩
  rcases h.2 with h0 | ⟨b', off', e, hc⟩
  · left; subst h0; simp
  · injection e with e
    injection e with e1 e2 _
    subst e1; subst e2
    refine Or.inr ⟨b, off + f, rfl, fun k x hk => ?_⟩
    have hkm : k < m := by have := (List.getElem?_eq_some_iff.1 hk).1; simp at this; omega
    rw [List.getElem?_take, if_pos hkm, List.getElem?_drop] at hk
    rw [Nat.add_assoc]
    exact hc _ x hk

end Go.Proofs.Ytncbgofcimghnaa
