/-
  Linear predictors as plain mathematics: predictions, residuals, samples that are restored.
-/
import Derived.Test.YtgiiaijlahjfnaaPar
import Derived.Test.YtgiiaijlahjfnaaILin
namespace Go.Proofs.Ytgiiaijlahjfnaa
open Go.RowKit

/-- The sum of the first k products in front of a place. -/
def prS (cs xs : List Int) (i : Nat) : Nat → Int
  | 0 => 0
  | k + 1 => prS cs xs i k + cs.getD k 0 * xs.getD (i - 1 - k) 0
/-- The prediction at a place. -/
def pred (cs : List Int) (sh : Nat) (xs : List Int) (i : Nat) : Int := prS cs xs i cs.length / 2 ^ sh
/-- The residual. -/
def resN (cs : List Int) (sh : Nat) (xs : List Int) (m : Nat) : List Int := (List.range m).map fun j => xs.getD (cs.length + j) 0 - pred cs sh xs (cs.length + j)
def resL (cs : List Int) (sh : Nat) (xs : List Int) : List Int := resN cs sh xs (xs.length - cs.length)
/-- The samples that are restored from the first k numbers of a residual. -/
def rsT (cs : List Int) (sh : Nat) (warm rs : List Int) : Nat → Option (List Int)
  | 0 => some warm
  | k + 1 => match rsT cs sh warm rs k with
    | none => none
    | some acc => let n := rs.getD k 0 + pred cs sh acc acc.length
      if -65536 ≤ n ∧ n ≤ 65536 then some (acc ++ [n]) else none

theorem resN_len (cs : List Int) (sh : Nat) (xs : List Int) (m : Nat) : (resN cs sh xs m).length = m := by simp [resN]
theorem resL_len (cs : List Int) (sh : Nat) (xs : List Int) : (resL cs sh xs).length = xs.length - cs.length := resN_len _ _ _ _
theorem resN_succ (cs : List Int) (sh : Nat) (xs : List Int) (m : Nat) : resN cs sh xs (m + 1) = resN cs sh xs m ++ [xs.getD (cs.length + m) 0 - pred cs sh xs (cs.length + m)] := by
  unfold resN; rw [List.range_succ, List.map_append]; rfl
theorem resN_get {cs : List Int} {sh : Nat} {xs : List Int} {m j : Nat} (h : j < m) : (resN cs sh xs m)[j]? = some (xs.getD (cs.length + j) 0 - pred cs sh xs (cs.length + j)) := by
  simp [resN, h]

/-! Ranges. -/
theorem coef_range {cs : List Int} (h : allB cs (-4095) 4095 = true) (k : Nat) : -4095 ≤ cs.getD k 0 ∧ cs.getD k 0 ≤ 4095 := by
  rw [List.getD_eq_getElem?_getD]
  cases hk : cs[k]? with
  | none => simp
  | some x => have := allB_mem h hk; simpa using this
theorem prod_range4 {a b : Int} (h0 : -4095 ≤ a) (h1 : a ≤ 4095) (h2 : -65536 ≤ b) (h3 : b ≤ 65536) : -268435456 ≤ a * b ∧ a * b ≤ 268435456 := by
  have e : (a * b).natAbs ≤ 4095 * 65536 := by
    rw [Int.natAbs_mul]
    exact Nat.mul_le_mul (by omega) (by omega)
  omega
theorem prS_range {cs xs : List Int} (hc : allB cs (-4095) 4095 = true) (hx : allB xs (-65536) 65536 = true) (i k : Nat) : -(268435456 * (k : Int)) ≤ prS cs xs i k ∧ prS cs xs i k ≤ 268435456 * (k : Int) := by
  induction k with
  | zero => simp [prS]
  | succ k ih =>
    have h1 := coef_range hc k
    have h2 := getD_range hx (i - 1 - k)
    have h3 := prod_range4 h1.1 h1.2 h2.1 h2.2
    simp only [prS]
    push_cast
    omega
theorem pred_range {cs xs : List Int} (hc : allB cs (-4095) 4095 = true) (hl : cs.length ≤ 8) (hx : allB xs (-65536) 65536 = true) (sh i : Nat) : -2147483648 ≤ pred cs sh xs i ∧ pred cs sh xs i ≤ 2147483648 := by
  have h := prS_range hc hx i cs.length
  have hp : (1 : Int) ≤ 2 ^ sh := by
    have := Nat.two_pow_pos sh
    have e : ((2 ^ sh : Nat) : Int) = 2 ^ sh := by simp
    omega
  unfold pred
  generalize prS cs xs i cs.length = s at *
  generalize (2 : Int) ^ sh = P at *
  constructor
  · have h1 : -2147483648 * P ≤ s := by
      have : -2147483648 * P ≤ -2147483648 * 1 := by omega
      omega
    exact (Int.le_ediv_iff_mul_le (by omega)).2 h1
  · exact Int.ediv_le_of_le_mul (by omega) (by omega)

/-! What a prediction depends on. -/
theorem prS_congr {cs xs ys : List Int} {i : Nat} (h : ∀ j, j < i → xs.getD j 0 = ys.getD j 0) : ∀ k, k ≤ i → prS cs xs i k = prS cs ys i k := by
  intro k
  induction k with
  | zero => intro _; rfl
  | succ k ih =>
    intro hk
    simp only [prS]
    rw [ih (by omega), h (i - 1 - k) (by omega)]
theorem pred_congr {cs xs ys : List Int} {sh i : Nat} (hi : cs.length ≤ i) (h : ∀ j, j < i → xs.getD j 0 = ys.getD j 0) : pred cs sh xs i = pred cs sh ys i := by
  unfold pred; rw [prS_congr h cs.length hi]

theorem getD_take {xs : List Int} {m j : Nat} (h : j < m) : (xs.take m).getD j 0 = xs.getD j 0 := by
  rw [List.getD_eq_getElem?_getD, List.getD_eq_getElem?_getD, List.getElem?_take, if_pos h]
theorem getD_append {xs ys : List Int} {j : Nat} (h : j < xs.length) : (xs ++ ys).getD j 0 = xs.getD j 0 := by
  rw [List.getD_eq_getElem?_getD, List.getD_eq_getElem?_getD, List.getElem?_append_left h]

/-- What has a residual is restored out of it. -/
theorem rsT_of_res {cs xs : List Int} {sh : Nat} (hx : allB xs (-65536) 65536 = true) (hl : cs.length ≤ xs.length) : ∀ k, cs.length + k ≤ xs.length → rsT cs sh (xs.take cs.length) (resL cs sh xs) k = some (xs.take (cs.length + k)) := by
  intro k
  induction k with
  | zero => intro _; rfl
  | succ k ih =>
    intro h
    simp only [rsT]
    rw [ih (by omega)]
    have hlen : (xs.take (cs.length + k)).length = cs.length + k := by simp; omega
    have hg : (resL cs sh xs).getD k 0 = xs.getD (cs.length + k) 0 - pred cs sh xs (cs.length + k) := by
      rw [List.getD_eq_getElem?_getD]; unfold resL; rw [resN_get (by omega)]; rfl
    have hp : pred cs sh (xs.take (cs.length + k)) (cs.length + k) = pred cs sh xs (cs.length + k) := pred_congr (by omega) (fun j hj => getD_take hj)
    simp only [hlen]
    rw [hg, hp]
    have hr := getD_range hx (cs.length + k)
    rw [show xs.getD (cs.length + k) 0 - pred cs sh xs (cs.length + k) + pred cs sh xs (cs.length + k) = xs.getD (cs.length + k) 0 by omega]
    rw [if_pos hr, show cs.length + (k + 1) = (cs.length + k) + 1 by omega, List.take_add_one]
    have hget : xs[cs.length + k]? = some (xs.getD (cs.length + k) 0) := by
      rw [List.getD_eq_getElem?_getD, List.getElem?_eq_getElem (by omega)]; rfl
    rw [hget]; rfl

theorem rsT_len {cs : List Int} {sh : Nat} {warm rs : List Int} : ∀ {k : Nat} {acc : List Int}, rsT cs sh warm rs k = some acc → acc.length = warm.length + k := by
  intro k
  induction k with
  | zero => intro acc h; simp only [rsT, Option.some.injEq] at h; subst h; rfl
  | succ k ih =>
    intro acc h
    simp only [rsT] at h
    cases hk : rsT cs sh warm rs k with
    | none => rw [hk] at h; cases h
    | some a =>
      rw [hk] at h
      simp only at h
      split at h
      · injection h with h; subst h; have := ih hk; simp; omega
      · cases h
theorem rsT_all {cs : List Int} {sh : Nat} {warm rs : List Int} (hw : allB warm (-65536) 65536 = true) : ∀ {k : Nat} {acc : List Int}, rsT cs sh warm rs k = some acc → allB acc (-65536) 65536 = true := by
  intro k
  induction k with
  | zero => intro acc h; simp only [rsT, Option.some.injEq] at h; subst h; exact hw
  | succ k ih =>
    intro acc h
    simp only [rsT] at h
    cases hk : rsT cs sh warm rs k with
    | none => rw [hk] at h; cases h
    | some a =>
      rw [hk] at h
      simp only at h
      split at h
      · rename_i hr
        injection h with h; subst h
        have := ih hk
        unfold allB at this ⊢
        rw [List.all_append, this]
        simp only [List.all_cons, List.all_nil, Bool.and_true, Bool.true_and]
        exact inB_true hr.1 hr.2
      · cases h
theorem rsT_prefix {cs : List Int} {sh : Nat} {warm rs : List Int} : ∀ {k : Nat} {acc : List Int}, rsT cs sh warm rs k = some acc → ∀ j, j ≤ k → rsT cs sh warm rs j = some (acc.take (warm.length + j)) := by
  intro k
  induction k with
  | zero =>
    intro acc h j hj
    obtain rfl : j = 0 := by omega
    simp only [rsT, Option.some.injEq] at h ⊢
    subst h; simp
  | succ k ih =>
    intro acc h j hj
    have hlen := rsT_len h
    by_cases hjk : j = k + 1
    · subst hjk
      rw [h, List.take_of_length_le (by omega)]
    · simp only [rsT] at h
      cases hk : rsT cs sh warm rs k with
      | none => rw [hk] at h; cases h
      | some a =>
        rw [hk] at h
        simp only at h
        split at h
        · injection h with h
          have hal := rsT_len hk
          rw [ih hk j (by omega), ← h, List.take_append_of_le_length (by omega)]
        · cases h
/-- What is restored out of a residual has it. -/
theorem res_of_rsT {cs : List Int} {sh : Nat} {warm rs acc : List Int} (hw : warm.length = cs.length) (h : rsT cs sh warm rs rs.length = some acc) : resL cs sh acc = rs ∧ acc.take cs.length = warm := by
  have hlen := rsT_len h
  constructor
  · apply List.ext_getElem?
    intro j
    by_cases hj : j < rs.length
    · unfold resL
      rw [resN_get (by omega)]
      have h1 := rsT_prefix h j (by omega)
      have h2 := rsT_prefix h (j + 1) (by omega)
      simp only [rsT] at h2
      rw [h1] at h2
      simp only at h2
      have hl1 : (acc.take (warm.length + j)).length = warm.length + j := by simp; omega
      rw [hl1] at h2
      have hp : pred cs sh (acc.take (warm.length + j)) (warm.length + j) = pred cs sh acc (warm.length + j) := pred_congr (by omega) (fun j hj => getD_take hj)
      rw [hp] at h2
      split at h2
      · injection h2 with h2
        have hget : acc[warm.length + j]? = some (rs.getD j 0 + pred cs sh acc (warm.length + j)) := by
          have e : (acc.take (warm.length + j) ++ [rs.getD j 0 + pred cs sh acc (warm.length + j)])[warm.length + j]? = (acc.take (warm.length + (j + 1)))[warm.length + j]? := by rw [h2]
          rw [List.getElem?_append_right (by omega), hl1, Nat.sub_self, List.getElem?_take, if_pos (by omega)] at e
          rw [← e]; rfl
        have hg2 : acc.getD (cs.length + j) 0 = rs.getD j 0 + pred cs sh acc (cs.length + j) := by
          rw [← hw, List.getD_eq_getElem?_getD, hget]; rfl
        rw [hg2, List.getElem?_eq_getElem hj, List.getD_eq_getElem?_getD, List.getElem?_eq_getElem hj]
        simp
      · cases h2
    · rw [List.getElem?_eq_none (by rw [resL_len]; omega), List.getElem?_eq_none (by omega)]
  · have := rsT_prefix h 0 (by omega)
    simp only [rsT, Option.some.injEq, Nat.add_zero] at this
    rw [← hw]; exact this.symm

/-! Doubled coefficients, and the coefficient 0. -/
theorem getD_double (cs : List Int) (k : Nat) : (cs.map (2 * ·)).getD k 0 = 2 * cs.getD k 0 := by
  rw [List.getD_eq_getElem?_getD, List.getElem?_map, List.getD_eq_getElem?_getD]
  cases cs[k]? <;> simp
theorem prS_double (cs xs : List Int) (i : Nat) : ∀ k, prS (cs.map (2 * ·)) xs i k = 2 * prS cs xs i k := by
  intro k
  induction k with
  | zero => rfl
  | succ k ih =>
    simp only [prS]
    rw [ih, getD_double, Int.mul_add, Int.mul_assoc]
theorem pred_double (cs xs : List Int) (sh i : Nat) : pred (cs.map (2 * ·)) (sh + 1) xs i = pred cs sh xs i := by
  unfold pred
  rw [prS_double, List.length_map, Int.pow_succ, Int.mul_comm (2 ^ sh) 2]
  exact Int.mul_ediv_mul_of_pos _ _ (by decide)
theorem resL_double (cs xs : List Int) (sh : Nat) : resL (cs.map (2 * ·)) (sh + 1) xs = resL cs sh xs := by
  unfold resL resN
  rw [List.length_map]
  apply List.map_congr_left
  intro j _
  rw [pred_double]
theorem resL_zero (xs : List Int) (sh : Nat) : resL [0] sh xs = xs.drop 1 := by
  apply List.ext_getElem?
  intro j
  by_cases hj : j < xs.length - 1
  · unfold resL
    rw [resN_get (by simpa using hj), List.getElem?_drop]
    show some (xs.getD (1 + j) 0 - pred [0] sh xs (1 + j)) = _
    have : pred [0] sh xs (1 + j) = 0 := by simp [pred, prS]
    rw [this]
    have hget : xs[1 + j]? = some (xs.getD (1 + j) 0) := by rw [List.getD_eq_getElem?_getD, List.getElem?_eq_getElem (by omega)]; rfl
    rw [hget]; simp
  · rw [List.getElem?_eq_none (by rw [resL_len]; simp; omega), List.getElem?_eq_none (by simp; omega)]

/-! What both functions give. -/
def lrOk (xs cs : List Int) (sh : Int) : Bool := vS xs && vLin cs sh && decide (cs.length ≤ xs.length) && vR (resL cs sh.toNat xs)
def lrR (xs cs : List Int) (sh : Int) : List Int := if lrOk xs cs sh then resL cs sh.toNat xs else []
def rsOk (warm rs cs : List Int) (sh : Int) : Bool := vLin cs sh && decide (warm.length = cs.length) && vS warm && vR rs && decide (warm.length + rs.length ≤ 64) && (rsT cs sh.toNat warm rs rs.length).isSome
def rsR (warm rs cs : List Int) (sh : Int) : List Int := if rsOk warm rs cs sh then (rsT cs sh.toNat warm rs rs.length).getD [] else []

end Go.Proofs.Ytgiiaijlahjfnaa
