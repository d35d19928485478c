/-
  What scaling does to samples: the mathematics of the laws. No condition but the ranges that are named.
-/
import Derived.Test.YthjelbanelmekaaGnS
namespace Go.Proofs.Ythjelbanelmekaa
open Go.RowKit

theorem scx_range (u : Nat) (num den x : Int) : -(2 ^ u) ≤ scx u num den x ∧ scx u num den x ≤ 2 ^ u - 1 := by
  have : (0 : Int) < 2 ^ u := by have := Nat.two_pow_pos u; have e : ((2 ^ u : Nat) : Int) = 2 ^ u := by simp
                                 omega
  unfold scx
  omega
theorem sc_va {r d : Int} {xss : List (List Int)} {u H : Nat} (h : VA r d xss u H) (num den : Int) : VA r d (xss.map (scL u num den)) u H := by
  refine ⟨h.rate, h.dep, h.u3, h.u15, by simpa using h.ch, ?_, h.hh, ?_⟩
  · have h0 := h.ch.1
    cases xss with
    | nil => simp at h0
    | cons xs xss =>
      have := h.hd
      simp at this
      simp [scL_len, this]
  · intro k ys hy
    rw [List.getElem?_map] at hy
    obtain ⟨xs, hx, rfl⟩ := Option.map_eq_some_iff.1 hy
    refine ⟨by rw [scL_len]; exact (h.row k xs hx).1, ?_⟩
    unfold allB
    rw [List.all_eq_true]
    intro y hy
    unfold scL at hy
    obtain ⟨x, _, rfl⟩ := List.mem_map.1 hy
    have := scx_range u num den x
    exact inB_true this.1 this.2
/-- What the rounded quotient is between. -/
theorem qC_between {den n q : Int} (hd : 1 ≤ den) (h1 : den * (2 * q - 1) ≤ 2 * n) (h2 : 2 * n < den * (2 * q + 1)) : qC den n = q := by
  unfold qC
  have e1 : den * (2 * q - 1) = 2 * den * q - den := by rw [Int.mul_sub, Int.mul_one, ← Int.mul_assoc, Int.mul_comm den 2]
  have e2 : den * (2 * q + 1) = 2 * den * q + den := by rw [Int.mul_add, Int.mul_one, ← Int.mul_assoc, Int.mul_comm den 2]
  rw [e1] at h1
  rw [e2] at h2
  have k1 := Int.emod_add_mul_ediv (2 * n + den) (2 * den)
  have k2 := Int.emod_nonneg (2 * n + den) (show 2 * den ≠ 0 by omega)
  have k3 := Int.emod_lt_of_pos (2 * n + den) (show 0 < 2 * den by omega)
  generalize (2 * n + den) / (2 * den) = z at *
  rcases Int.lt_trichotomy z q with h | h | h
  · have : 2 * den * (z + 1) ≤ 2 * den * q := Int.mul_le_mul_of_nonneg_left (by omega) (by omega)
    rw [Int.mul_add, Int.mul_one] at this; omega
  · exact h
  · have : 2 * den * (q + 1) ≤ 2 * den * z := Int.mul_le_mul_of_nonneg_left (by omega) (by omega)
    rw [Int.mul_add, Int.mul_one] at this; omega
theorem qC_ge {den n q : Int} (hd : 1 ≤ den) (h1 : den * (2 * q - 1) ≤ 2 * n) : q ≤ qC den n := by
  unfold qC
  have e1 : den * (2 * q - 1) = 2 * den * q - den := by rw [Int.mul_sub, Int.mul_one, ← Int.mul_assoc, Int.mul_comm den 2]
  rw [e1] at h1
  rw [Int.le_ediv_iff_mul_le (by omega), Int.mul_comm q]; omega
theorem qC_le {den n q : Int} (hd : 1 ≤ den) (h2 : 2 * n < den * (2 * q + 1)) : qC den n ≤ q := by
  unfold qC
  have e2 : den * (2 * q + 1) = 2 * den * q + den := by rw [Int.mul_add, Int.mul_one, ← Int.mul_assoc, Int.mul_comm den 2]
  rw [e2] at h2
  have : (2 * n + den) / (2 * den) < q + 1 := by
    rw [Int.ediv_lt_iff_lt_mul (by omega), Int.add_mul, Int.one_mul, Int.mul_comm q]; omega
  omega
theorem qC_at {den n : Int} (hd : 1 ≤ den) : den * (2 * qC den n - 1) ≤ 2 * n ∧ 2 * n < den * (2 * qC den n + 1) := by
  have k := qC_bound (n := n) hd
  have e1 : den * (2 * qC den n - 1) = 2 * (den * qC den n) - den := by rw [Int.mul_sub, Int.mul_one, Int.mul_left_comm]
  have e2 : den * (2 * qC den n + 1) = 2 * (den * qC den n) + den := by rw [Int.mul_add, Int.mul_one, Int.mul_left_comm]
  rw [e1, e2]
  refine ⟨by omega, ?_⟩
  unfold qC
  have k1 := Int.emod_add_mul_ediv (2 * n + den) (2 * den)
  have k3 := Int.emod_lt_of_pos (2 * n + den) (show 0 < 2 * den by omega)
  generalize (2 * n + den) / (2 * den) = z at *
  rw [Int.mul_assoc] at k1
  omega
theorem qC_mono {den n m : Int} (hd : 1 ≤ den) (h : n ≤ m) : qC den n ≤ qC den m := by
  have := qC_at (n := n) hd
  exact qC_ge hd (by omega)
theorem scx_mono {u : Nat} {num den x y : Int} (hn : 1 ≤ num) (hd : 1 ≤ den) (h : x ≤ y) : scx u num den x ≤ scx u num den y := by
  have h1 : x * num ≤ y * num := Int.mul_le_mul_of_nonneg_right h (by omega)
  have := qC_mono hd h1
  unfold scx
  omega
theorem clx_in {u : Nat} {num den x : Int} (h : -(2 ^ u) ≤ qC den (x * num)) (h2 : qC den (x * num) ≤ 2 ^ u - 1) : clx u num den x = 0 ∧ scx u num den x = qC den (x * num) := by
  have : scx u num den x = qC den (x * num) := by unfold scx; omega
  exact ⟨if_pos this, this⟩
theorem clx_out {u : Nat} {num den x : Int} (h : clx u num den x = 0) : scx u num den x = qC den (x * num) := by
  unfold clx at h
  split at h
  · assumption
  · cases h
theorem qC_id {num x : Int} (hn : 1 ≤ num) : qC num (x * num) = x := by
  refine qC_between hn ?_ ?_
  · rw [Int.mul_comm x num, ← Int.mul_assoc, Int.mul_comm 2 num, Int.mul_assoc]
    exact Int.mul_le_mul_of_nonneg_left (by omega) (by omega)
  · rw [Int.mul_comm x num, ← Int.mul_assoc, Int.mul_comm 2 num, Int.mul_assoc]
    exact Int.mul_lt_mul_of_pos_left (by omega) (by omega)
theorem sc_id {u : Nat} {num x : Int} (hn : 1 ≤ num) (h0 : -(2 ^ u) ≤ x) (h1 : x ≤ 2 ^ u - 1) : clx u num num x = 0 ∧ scx u num num x = x := by
  have e := qC_id (x := x) hn
  have := clx_in (u := u) (num := num) (den := num) (x := x) (by rw [e]; exact h0) (by rw [e]; exact h1)
  rw [e] at this
  exact this
/-- No greater factor than divisor: nothing is limited. -/
theorem cl_small {u : Nat} {num den x : Int} (hn : 1 ≤ num) (hd : num ≤ den) (h0 : -(2 ^ u) ≤ x) (h1 : x ≤ 2 ^ u - 1) : clx u num den x = 0 := by
  have hp : (0 : Int) < 2 ^ u := by have := Nat.two_pow_pos u; have e : ((2 ^ u : Nat) : Int) = 2 ^ u := by simp
                                    omega
  rcases Int.le_total 0 x with hx | hx
  · have k1 : x * num ≤ x * den := Int.mul_le_mul_of_nonneg_left hd hx
    have k2 : 0 ≤ x * num := Int.mul_nonneg hx (by omega)
    refine (clx_in ?_ ?_).1
    · have : (0 : Int) ≤ qC den (x * num) := qC_ge (by omega) (by rw [show 2 * (0 : Int) - 1 = -1 by omega, Int.mul_neg, Int.mul_one]; omega)
      omega
    · have : qC den (x * num) ≤ x := qC_le (by omega) (by rw [Int.mul_add, Int.mul_one, Int.mul_left_comm den 2 x, Int.mul_comm den x]; omega)
      omega
  · have k1 : x * den ≤ x * num := Int.mul_le_mul_of_nonpos_left hx hd
    have k2 : x * num ≤ 0 := Int.mul_nonpos_of_nonpos_of_nonneg hx (by omega)
    refine (clx_in ?_ ?_).1
    · have : x ≤ qC den (x * num) := qC_ge (by omega) (by rw [Int.mul_sub, Int.mul_one, Int.mul_left_comm, Int.mul_comm den x]; omega)
      omega
    · have : qC den (x * num) ≤ 0 := qC_le (by omega) (by rw [show 2 * (0 : Int) + 1 = 1 by omega, Int.mul_one]; omega)
      omega
/-- A greater divisor limits no more. -/
theorem cl_more {u : Nat} {num den x : Int} (hn : 1 ≤ num) (hd : 1 ≤ den) (h : clx u num den x = 0) : clx u num (den + 1) x = 0 := by
  have hp : (0 : Int) < 2 ^ u := by have := Nat.two_pow_pos u; have e : ((2 ^ u : Nat) : Int) = 2 ^ u := by simp
                                    omega
  have hq := clx_out h
  have hr := scx_range u num den x
  rw [hq] at hr
  have ha := qC_at (n := x * num) hd
  generalize hqq : qC den (x * num) = q at *
  rcases Int.le_total 0 x with hx | hx
  · have k2 : 0 ≤ x * num := Int.mul_nonneg hx (by omega)
    have hq0 : 0 ≤ q := by rw [← hqq]; exact qC_ge hd (by rw [show 2 * (0 : Int) - 1 = -1 by omega, Int.mul_neg, Int.mul_one]; omega)
    refine (clx_in ?_ ?_).1
    · have : (0 : Int) ≤ qC (den + 1) (x * num) := qC_ge (by omega) (by rw [show 2 * (0 : Int) - 1 = -1 by omega, Int.mul_neg, Int.mul_one]; omega)
      omega
    · have : qC (den + 1) (x * num) ≤ q := qC_le (by omega) (by rw [Int.add_mul, Int.one_mul]; omega)
      omega
  · have k2 : x * num ≤ 0 := Int.mul_nonpos_of_nonpos_of_nonneg hx (by omega)
    have hq0 : q ≤ 0 := by rw [← hqq]; exact qC_le hd (by rw [show 2 * (0 : Int) + 1 = 1 by omega, Int.mul_one]; omega)
    refine (clx_in ?_ ?_).1
    · have : q ≤ qC (den + 1) (x * num) := qC_ge (by omega) (by rw [Int.add_mul, Int.one_mul]; omega)
      omega
    · have : qC (den + 1) (x * num) ≤ 0 := qC_le (by omega) (by rw [show 2 * (0 : Int) + 1 = 1 by omega, Int.mul_one]; omega)
      omega
theorem sc_zero {u : Nat} {num den : Int} (hd : 1 ≤ den) : clx u num den 0 = 0 ∧ scx u num den 0 = 0 := by
  have hp : (0 : Int) < 2 ^ u := by have := Nat.two_pow_pos u; have e : ((2 ^ u : Nat) : Int) = 2 ^ u := by simp
                                    omega
  have e : qC den (0 * num) = 0 := by rw [Int.zero_mul]; exact qC_between hd (by simp; omega) (by simp; omega)
  have := clx_in (u := u) (num := num) (den := den) (x := 0) (by rw [e]; omega) (by rw [e]; omega)
  rw [e] at this
  exact this
theorem clL_zero {u : Nat} {num den : Int} {xs : List Int} (h : ∀ x ∈ xs, clx u num den x = 0) : clL u num den xs = 0 := by
  unfold clL
  induction xs with
  | nil => rfl
  | cons x xs ih => rw [List.map_cons, List.sum_cons, h x (by simp), ih (fun y hy => h y (by simp [hy]))]
theorem clM_zero {u : Nat} {num den : Int} {xss : List (List Int)} (h : ∀ xs ∈ xss, ∀ x ∈ xs, clx u num den x = 0) : clM u num den xss = 0 := by
  unfold clM
  induction xss with
  | nil => rfl
  | cons xs xss ih => rw [List.map_cons, List.sum_cons, clL_zero (h xs (by simp)), ih (fun y hy => h y (by simp [hy]))]
theorem clL_all {u : Nat} {num den : Int} {xs : List Int} (h : clL u num den xs = 0) : ∀ x ∈ xs, clx u num den x = 0 := by
  induction xs with
  | nil => intro x hx; simp at hx
  | cons y xs ih =>
    have : clx u num den y + clL u num den xs = 0 := h
    intro x hx
    rcases List.mem_cons.1 hx with rfl | hx
    · omega
    · exact ih (by omega) x hx
theorem clM_all {u : Nat} {num den : Int} {xss : List (List Int)} (h : clM u num den xss = 0) : ∀ xs ∈ xss, ∀ x ∈ xs, clx u num den x = 0 := by
  induction xss with
  | nil => intro x hx; simp at hx
  | cons y xss ih =>
    have : clL u num den y + clM u num den xss = 0 := h
    intro x hx
    rcases List.mem_cons.1 hx with rfl | hx
    · exact clL_all (by omega)
    · exact ih (by omega) x hx
theorem VA.mem {r d : Int} {xss : List (List Int)} {u H : Nat} (h : VA r d xss u H) {xs : List Int} {x : Int} (hx : xs ∈ xss) (hy : x ∈ xs) : -(2 ^ u) ≤ x ∧ x ≤ 2 ^ u - 1 := by
  obtain ⟨k, hk⟩ := List.getElem?_of_mem hx
  obtain ⟨j, hj⟩ := List.getElem?_of_mem hy
  exact h.num hk hj
theorem scM_id {r d num : Int} {xss : List (List Int)} {u H : Nat} (h : VA r d xss u H) (hn : 1 ≤ num) : xss.map (scL u num num) = xss ∧ clM u num num xss = 0 := by
  refine ⟨?_, clM_zero (fun _ hx _ hy => (sc_id hn (h.mem hx hy).1 (h.mem hx hy).2).1)⟩
  conv => rhs; rw [← List.map_id xss]
  refine List.map_congr_left (fun xs hx => ?_)
  unfold scL
  conv => rhs; rw [id, ← List.map_id xs]
  exact List.map_congr_left (fun x hy => (sc_id hn (h.mem hx hy).1 (h.mem hx hy).2).2)
theorem clM_small {r d num den : Int} {xss : List (List Int)} {u H : Nat} (h : VA r d xss u H) (hn : 1 ≤ num) (hd : num ≤ den) : clM u num den xss = 0 :=
  clM_zero (fun _ hx _ hy => cl_small hn hd (h.mem hx hy).1 (h.mem hx hy).2)
theorem clM_more {num den : Int} {xss : List (List Int)} {u : Nat} (hn : 1 ≤ num) (hd : 1 ≤ den) (h : clM u num den xss = 0) : clM u num (den + 1) xss = 0 :=
  clM_zero (fun _ hx _ hy => cl_more hn hd (clM_all h _ hx _ hy))
/-- Doubled samples, halved. -/
theorem scM_twice {r d : Int} {xss : List (List Int)} {u H : Nat} (h : VA r d xss u H) (hc : clM u 2 1 xss = 0) : (xss.map (scL u 2 1)).map (scL u 1 2) = xss := by
  rw [List.map_map]
  conv => rhs; rw [← List.map_id xss]
  refine List.map_congr_left (fun xs hx => ?_)
  show ((xs.map (scx u 2 1)).map (scx u 1 2)) = id xs
  rw [List.map_map]
  conv => rhs; rw [id, ← List.map_id xs]
  refine List.map_congr_left (fun x hy => ?_)
  have h1 := clx_out (clM_all hc xs hx x hy)
  have h2 : qC 1 (x * 2) = x * 2 := qC_between (by omega) (by omega) (by omega)
  show scx u 1 2 (scx u 2 1 x) = x
  rw [h1, h2]
  have h3 := h.mem hx hy
  have e : qC 2 (x * 2 * 1) = x := by rw [Int.mul_one]; exact qC_id (by omega)
  have := clx_in (u := u) (num := 1) (den := 2) (x := x * 2) (by rw [e]; exact h3.1) (by rw [e]; exact h3.2)
  rw [e] at this
  exact this.2
theorem gS_zero (u : Nat) (den : Int) (xss : List (List Int)) (h : ∀ j : Nat, j < 64 → clM u ((j : Int) + 1) den xss = 0) : gS u den xss 64 = 64 := gS_yes (h 63 (by omega))
theorem gS_is {u : Nat} {den : Int} {xss : List (List Int)} : ∀ j, (gS u den xss j = 0 ∨ clM u (gS u den xss j : Nat) den xss = 0) ∧ ∀ i, gS u den xss j ≤ i → i < j → ¬ clM u ((i : Int) + 1) den xss = 0 := by
  intro j
  induction j with
  | zero => exact ⟨Or.inl rfl, fun i _ h => by omega⟩
  | succ j ih =>
    by_cases hc : clM u ((j : Int) + 1) den xss = 0
    · rw [gS_yes hc]
      exact ⟨Or.inr (by exact hc), fun i h1 h2 => by omega⟩
    · rw [gS_no hc]
      refine ⟨ih.1, fun i h1 h2 => ?_⟩
      by_cases hij : i = j
      · subst hij; exact hc
      · exact ih.2 i h1 (by omega)
theorem gS_mono {u : Nat} {den : Int} {xss : List (List Int)} (hd : 1 ≤ den) (j : Nat) : gS u den xss j ≤ gS u (den + 1) xss j := by
  induction j with
  | zero => exact Nat.le_refl _
  | succ j ih =>
    by_cases hc : clM u ((j : Int) + 1) den xss = 0
    · rw [gS_yes hc, gS_yes (clM_more (by omega) hd hc)]; exact Nat.le_refl _
    · rw [gS_no hc]
      by_cases hc2 : clM u ((j : Int) + 1) (den + 1) xss = 0
      · rw [gS_yes hc2]; have := gS_le u den xss j; omega
      · rw [gS_no hc2]; exact ih
theorem ScR_sz {r d num den rr dd n : Int} {xss yss : List (List Int)} {ok : Bool} (h : ScR r d num den xss rr dd yss n ok) : szL yss ≤ szL xss := by
  rcases h with ⟨_, _, _, _, _, u, H, _, rfl, _⟩ | ⟨_, _, _, rfl, _⟩
  · have : (xss.map (scL u num den)).map List.length = xss.map List.length := by
      rw [List.map_map]; exact List.map_congr_left (fun xs _ => scL_len _ _ _ _)
    unfold szL
    rw [this, List.length_map]
    exact Nat.le_refl _
  · simp [szL]

end Go.Proofs.Ythjelbanelmekaa
