/-
  Valid bits are packed lists of truth values; what is put is appended, what is read is what was put. Plain mathematics.
-/
import Derived.Test.YtcgcippniicaaaaDoorPut
import Derived.Test.YtcgcippniicaaaaDoorValid
namespace Go.Proofs.YtcgcippniicaaaaDoor
open Go.RowKit

theorem allB_mem' {xs : List Int} {lo hi x : Int} {k : Nat} (h : allB xs lo hi = true) (hx : xs[k]? = some x) : lo ≤ x ∧ x ≤ hi := by
  unfold allB at h
  rw [List.all_eq_true] at h
  have := h x (List.mem_of_getElem? hx)
  simpa [inB] using this

/-- A bit as a number; a byte of eight of them; the bytes of a list. -/
def cb (bs : List Bool) (i : Nat) : Int := if bs.getD i false then 1 else 0
def byteAt (bs : List Bool) (k : Nat) : Int :=
  128 * cb bs (8 * k) + 64 * cb bs (8 * k + 1) + 32 * cb bs (8 * k + 2) + 16 * cb bs (8 * k + 3) + 8 * cb bs (8 * k + 4) + 4 * cb bs (8 * k + 5) + 2 * cb bs (8 * k + 6) + cb bs (8 * k + 7)
def pk (bs : List Bool) : List Int := (List.range ((bs.length + 7) / 8)).map (byteAt bs)

theorem cb_range (bs : List Bool) (i : Nat) : 0 ≤ cb bs i ∧ cb bs i ≤ 1 := by unfold cb; split <;> omega
theorem cb_past {bs : List Bool} {i : Nat} (h : bs.length ≤ i) : cb bs i = 0 := by
  unfold cb; rw [List.getD_eq_getElem?_getD, List.getElem?_eq_none h]; rfl
theorem byteAt_range (bs : List Bool) (k : Nat) : 0 ≤ byteAt bs k ∧ byteAt bs k ≤ 255 := by
  unfold byteAt
  have h0 := cb_range bs (8 * k); have h1 := cb_range bs (8 * k + 1); have h2 := cb_range bs (8 * k + 2); have h3 := cb_range bs (8 * k + 3)
  have h4 := cb_range bs (8 * k + 4); have h5 := cb_range bs (8 * k + 5); have h6 := cb_range bs (8 * k + 6); have h7 := cb_range bs (8 * k + 7)
  omega
theorem pk_len (bs : List Bool) : (pk bs).length = (bs.length + 7) / 8 := by simp [pk]
theorem pk_get {bs : List Bool} {k : Nat} (h : k < (bs.length + 7) / 8) : (pk bs)[k]? = some (byteAt bs k) := by simp [pk, h]
theorem pk_getD {bs : List Bool} {k : Nat} (h : k < (bs.length + 7) / 8) : (pk bs).getD k 0 = byteAt bs k := by rw [List.getD_eq_getElem?_getD, pk_get h]; rfl
theorem pk_all (bs : List Bool) : allB (pk bs) 0 255 = true := by
  unfold allB pk
  rw [List.all_eq_true]
  intro y hy
  simp only [List.mem_map] at hy
  obtain ⟨k, _, rfl⟩ := hy
  have := byteAt_range bs k
  simpa [inB] using this
theorem pk_upto (bs : List Bool) : Upto (pk bs) 255 := fun y hy => by
  unfold pk at hy
  simp only [List.mem_map] at hy
  obtain ⟨k, _, rfl⟩ := hy
  exact byteAt_range bs k

/-! A further bit. -/
theorem cb_snoc_lt {bs : List Bool} {b : Bool} {i : Nat} (h : i < bs.length) : cb (bs ++ [b]) i = cb bs i := by
  unfold cb; rw [List.getD_eq_getElem?_getD, List.getD_eq_getElem?_getD, List.getElem?_append_left h]
theorem cb_snoc_at (bs : List Bool) (b : Bool) : cb (bs ++ [b]) bs.length = if b then 1 else 0 := by
  unfold cb; rw [List.getD_eq_getElem?_getD, List.getElem?_append_right (Nat.le_refl _)]; simp
theorem cb_snoc_past {bs : List Bool} {b : Bool} {i : Nat} (h : bs.length < i) : cb (bs ++ [b]) i = 0 := cb_past (by simp; omega)
theorem cb_snoc (bs : List Bool) (b : Bool) (i : Nat) : cb (bs ++ [b]) i = cb bs i + if i = bs.length ∧ b = true then 1 else 0 := by
  by_cases h : i < bs.length
  · rw [cb_snoc_lt h, if_neg (by omega)]; omega
  · by_cases h2 : i = bs.length
    · subst h2
      rw [cb_snoc_at, cb_past (Nat.le_refl _)]
      cases b <;> simp
    · rw [cb_snoc_past (by omega), cb_past (by omega), if_neg (by omega)]; rfl
theorem byteAt_snoc_lt {bs : List Bool} {b : Bool} {k : Nat} (h : k ≠ bs.length / 8) : byteAt (bs ++ [b]) k = byteAt bs k := by
  unfold byteAt
  simp only [cb_snoc]
  rw [if_neg (by omega), if_neg (by omega), if_neg (by omega), if_neg (by omega), if_neg (by omega), if_neg (by omega), if_neg (by omega), if_neg (by omega)]
  omega
theorem byteAt_snoc_at (bs : List Bool) (b : Bool) : byteAt (bs ++ [b]) (bs.length / 8) = byteAt bs (bs.length / 8) + if b then 2 ^ (7 - bs.length % 8) else 0 := by
  cases b with
  | false => unfold byteAt; simp only [cb_snoc]; simp
  | true =>
    unfold byteAt
    simp only [cb_snoc, and_true, if_true]
    obtain ⟨q, r, hr, hn⟩ : ∃ q r, r < 8 ∧ bs.length = 8 * q + r := ⟨bs.length / 8, bs.length % 8, Nat.mod_lt _ (by omega), by omega⟩
    rw [hn, show (8 * q + r) / 8 = q by omega, show (8 * q + r) % 8 = r by omega]
    have : r = 0 ∨ r = 1 ∨ r = 2 ∨ r = 3 ∨ r = 4 ∨ r = 5 ∨ r = 6 ∨ r = 7 := by omega
    rcases this with rfl | rfl | rfl | rfl | rfl | rfl | rfl | rfl <;> simp <;> omega
/-- One bit more, as the writers lay it. -/
def stepB (ys : List Int) (n : Nat) (b : Bool) : List Int := if b then bit (pad ys n) n else pad ys n
theorem pad_pk (bs : List Bool) : pad (pk bs) bs.length = (List.range ((bs.length + 1 + 7) / 8)).map (byteAt bs) := by
  unfold pad
  split
  · rename_i h
    rw [show (bs.length + 1 + 7) / 8 = (bs.length + 7) / 8 + 1 by omega, List.range_succ, List.map_append]
    unfold pk
    congr 1
    simp only [List.map_cons, List.map_nil, List.cons.injEq, and_true]
    unfold byteAt
    rw [cb_past (by omega), cb_past (by omega), cb_past (by omega), cb_past (by omega), cb_past (by omega), cb_past (by omega), cb_past (by omega), cb_past (by omega)]
    rfl
  · unfold pk; congr 2; omega
theorem pk_snoc (bs : List Bool) (b : Bool) : pk (bs ++ [b]) = stepB (pk bs) bs.length b := by
  have hlen : (bs ++ [b]).length = bs.length + 1 := by simp
  have e : pk (bs ++ [b]) = (List.range ((bs.length + 1 + 7) / 8)).map (byteAt (bs ++ [b])) := by unfold pk; rw [hlen]
  rw [e]
  unfold stepB
  rw [pad_pk]
  apply List.ext_getElem?
  intro k
  have hd : bs.length / 8 < (bs.length + 1 + 7) / 8 := by omega
  cases b with
  | false =>
    simp only [Bool.false_eq_true, if_false, List.getElem?_map]
    by_cases hk : k < (bs.length + 1 + 7) / 8
    · rw [List.getElem?_range hk]
      simp only [Option.map_some, Option.some.injEq]
      by_cases h : k = bs.length / 8
      · subst h; rw [byteAt_snoc_at]; simp
      · exact byteAt_snoc_lt h
    · rw [List.getElem?_eq_none (by simpa using hk)]; rfl
  | true =>
    simp only [if_true]
    unfold bit
    rw [List.getElem?_set, List.getElem?_map]
    by_cases h : bs.length / 8 = k
    · subst h
      rw [if_pos rfl, if_pos (by simpa using hd), List.getElem?_range hd, List.getD_eq_getElem?_getD, List.getElem?_map, List.getElem?_range hd]
      simp [byteAt_snoc_at]
    · rw [if_neg h, List.getElem?_map]
      by_cases hk : k < (bs.length + 1 + 7) / 8
      · rw [List.getElem?_range hk]
        simp only [Option.map_some, Option.some.injEq]
        exact byteAt_snoc_lt (fun e => h e.symm)
      · rw [List.getElem?_eq_none (by simpa using hk)]; rfl

/-- The bits of a number. -/
def numB (v width : Nat) : List Bool := (List.range width).map fun j => decide (v / 2 ^ (width - 1 - j) % 2 = 1)
theorem numB_len (v width : Nat) : (numB v width).length = width := by simp [numB]
theorem numB_get {v width j : Nat} (h : j < width) : (numB v width)[j]? = some (decide (v / 2 ^ (width - 1 - j) % 2 = 1)) := by simp [numB, h]
theorem numB_take {v width j : Nat} (h : j < width) : (numB v width).take (j + 1) = (numB v width).take j ++ [decide (v / 2 ^ (width - 1 - j) % 2 = 1)] := by
  rw [List.take_add_one, numB_get h]; rfl
theorem putN_pk (bs : List Bool) (v width : Nat) : ∀ j, j ≤ width → putN (pk bs) bs.length v width j = pk (bs ++ (numB v width).take j) := by
  intro j
  induction j with
  | zero => intro _; simp [putN]
  | succ j ih =>
    intro h
    have hl : (bs ++ (numB v width).take j).length = bs.length + j := by simp [numB_len]; omega
    rw [numB_take (by omega), ← List.append_assoc, pk_snoc, hl]
    simp only [putN]
    rw [ih (by omega)]
    unfold stepB
    by_cases hb : v / 2 ^ (width - 1 - j) % 2 = 1
    · rw [if_pos hb, if_pos (by simpa using hb)]
    · rw [if_neg hb, if_neg (by simpa using hb)]
theorem putN_all (bs : List Bool) (v width : Nat) : putN (pk bs) bs.length v width width = pk (bs ++ numB v width) := by
  rw [putN_pk bs v width width (Nat.le_refl _), List.take_of_length_le (by rw [numB_len]; exact Nat.le_refl _)]

/-! Reading. -/
theorem byte_bit (bs : List Bool) (i : Nat) : byteAt bs (i / 8) / 2 ^ (7 - i % 8) % 2 = cb bs i := by
  obtain ⟨q, r, hr, hn⟩ : ∃ q r, r < 8 ∧ i = 8 * q + r := ⟨i / 8, i % 8, Nat.mod_lt _ (by omega), by omega⟩
  subst hn
  rw [show (8 * q + r) / 8 = q by omega, show (8 * q + r) % 8 = r by omega]
  unfold byteAt
  have h0 := cb_range bs (8 * q); have h1 := cb_range bs (8 * q + 1); have h2 := cb_range bs (8 * q + 2); have h3 := cb_range bs (8 * q + 3)
  have h4 := cb_range bs (8 * q + 4); have h5 := cb_range bs (8 * q + 5); have h6 := cb_range bs (8 * q + 6); have h7 := cb_range bs (8 * q + 7)
  have : r = 0 ∨ r = 1 ∨ r = 2 ∨ r = 3 ∨ r = 4 ∨ r = 5 ∨ r = 6 ∨ r = 7 := by omega
  rcases this with rfl | rfl | rfl | rfl | rfl | rfl | rfl | rfl <;> simp <;> omega

/-- The bits of bytes. -/
def unpk (xs : List Int) (c : Nat) : List Bool := (List.range c).map fun i => decide (xs.getD (i / 8) 0 / 2 ^ (7 - i % 8) % 2 = 1)
theorem unpk_len (xs : List Int) (c : Nat) : (unpk xs c).length = c := by simp [unpk]
theorem cb_unpk {xs : List Int} {c i : Nat} (h : i < c) : cb (unpk xs c) i = xs.getD (i / 8) 0 / 2 ^ (7 - i % 8) % 2 := by
  unfold cb unpk
  rw [List.getD_eq_getElem?_getD, List.getElem?_map, List.getElem?_range h]
  simp only [Option.map_some, Option.getD_some, decide_eq_true_eq]
  have := Int.emod_two_eq (xs.getD (i / 8) 0 / 2 ^ (7 - i % 8))
  split <;> omega
theorem byte_sum : ∀ n, n < 256 → ∀ r, r ≤ 8 → n % 2 ^ (8 - r) = 0 →
    128 * (if 0 < r then n / 2 ^ (7 - 0) % 2 else 0) + 64 * (if 1 < r then n / 2 ^ (7 - 1) % 2 else 0) + 32 * (if 2 < r then n / 2 ^ (7 - 2) % 2 else 0) + 16 * (if 3 < r then n / 2 ^ (7 - 3) % 2 else 0)
      + 8 * (if 4 < r then n / 2 ^ (7 - 4) % 2 else 0) + 4 * (if 5 < r then n / 2 ^ (7 - 5) % 2 else 0) + 2 * (if 6 < r then n / 2 ^ (7 - 6) % 2 else 0) + (if 7 < r then n / 2 ^ (7 - 7) % 2 else 0) = n := by decide +kernel
set_option maxHeartbeats 1000000 in
theorem pk_unpk {xs : List Int} {c : Nat} (h : VB xs (c : Int) = true) : pk (unpk xs c) = xs := by
  unfold VB at h
  simp only [Bool.and_eq_true, decide_eq_true_eq] at h
  obtain ⟨⟨⟨_, hl⟩, ha⟩, ht⟩ := h
  have hl2 : xs.length = (c + 7) / 8 := by omega
  apply List.ext_getElem?
  intro k
  by_cases hk : k < (c + 7) / 8
  · rw [pk_get (by rw [unpk_len]; exact hk)]
    obtain ⟨x, hx⟩ : ∃ x, xs[k]? = some x := ⟨_, List.getElem?_eq_getElem (by omega)⟩
    have hxr := allB_mem' ha hx
    rw [hx]
    congr 1
    have hD : xs.getD k 0 = x := by rw [List.getD_eq_getElem?_getD, hx]; rfl
    have key : ∀ j, j < 8 → cb (unpk xs c) (8 * k + j) = if 8 * k + j < c then x / 2 ^ (7 - j) % 2 else 0 := by
      intro j hj
      by_cases hc : 8 * k + j < c
      · rw [if_pos hc, cb_unpk hc, show (8 * k + j) / 8 = k by omega, show (8 * k + j) % 8 = j by omega, hD]
      · rw [if_neg hc, cb_past (by rw [unpk_len]; omega)]
    obtain ⟨n, rfl⟩ := Int.eq_ofNat_of_zero_le hxr.1
    have hspare : n % 2 ^ (8 - min (c - 8 * k) 8) = 0 := by
      by_cases hc : 8 * k + 8 ≤ c
      · rw [show 8 - min (c - 8 * k) 8 = 0 by omega]; simp; omega
      · have hr : (c : Int) % 8 = ((c - 8 * k : Nat) : Int) := by omega
        have hkl : xs.length - 1 = k := by omega
        unfold tailB at ht
        simp only [Bool.or_eq_true, decide_eq_true_eq] at ht
        rcases ht with ht | ht
        · omega
        · rw [hkl, hD, hr] at ht
          rw [show (8 - ((c - 8 * k : Nat) : Int)).toNat = 8 - min (c - 8 * k) 8 by omega] at ht
          generalize 8 - min (c - 8 * k) 8 = q at *
          exact_mod_cast ht
    have hsum := byte_sum n (by omega) (min (c - 8 * k) 8) (by omega) hspare
    have key2 : ∀ j, j < 8 → cb (unpk xs c) (8 * k + j) = ((if j < min (c - 8 * k) 8 then n / 2 ^ (7 - j) % 2 else 0 : Nat) : Int) := by
      intro j hj
      rw [key j hj]
      by_cases h : 8 * k + j < c
      · rw [if_pos h, if_pos (by omega)]; simp
      · rw [if_neg h, if_neg (by omega)]; rfl
    unfold byteAt
    have k0 := key2 0 (by omega); have k1 := key2 1 (by omega); have k2 := key2 2 (by omega); have k3 := key2 3 (by omega)
    have k4 := key2 4 (by omega); have k5 := key2 5 (by omega); have k6 := key2 6 (by omega); have k7 := key2 7 (by omega)
    rw [Nat.add_zero] at k0
    rw [k0, k1, k2, k3, k4, k5, k6, k7]
    exact_mod_cast hsum
  · rw [List.getElem?_eq_none (by rw [pk_len, unpk_len]; omega), List.getElem?_eq_none (by omega)]

/-- Valid bits are what a list of truth values packs to. -/
theorem VB_pk {xs : List Int} {c : Int} (h : VB xs c = true) : ∃ bs : List Bool, xs = pk bs ∧ c = (bs.length : Int) ∧ bs.length ≤ 16384 := by
  have h' := h
  unfold VB at h
  simp only [Bool.and_eq_true] at h
  have hc : 0 ≤ c ∧ c ≤ 16384 := by simpa [inB] using h.1.1.1
  obtain ⟨n, rfl⟩ := Int.eq_ofNat_of_zero_le hc.1
  exact ⟨unpk xs n, (pk_unpk h').symm, by rw [unpk_len], by rw [unpk_len]; omega⟩
theorem pk_VB {bs : List Bool} (h : bs.length ≤ 16384) : VB (pk bs) (bs.length : Int) = true := by
  unfold VB
  rw [pk_all, pk_len, inB_true (by omega) (by omega)]
  simp only [Bool.true_and, Bool.and_true, Bool.and_eq_true, decide_eq_true_eq]
  refine ⟨by omega, ?_⟩
  unfold tailB
  rw [pk_len]
  obtain ⟨q, r, hr, hn⟩ : ∃ q r, r < 8 ∧ bs.length = 8 * q + r := ⟨bs.length / 8, bs.length % 8, Nat.mod_lt _ (by omega), by omega⟩
  by_cases h0 : r = 0
  · have : (bs.length : Int) % 8 = 0 := by omega
    simp [this]
  · rw [show (bs.length + 7) / 8 - 1 = q by omega, pk_getD (by omega), show (8 - (bs.length : Int) % 8).toNat = 8 - r by omega]
    simp only [Bool.or_eq_true, decide_eq_true_eq]
    right
    unfold byteAt
    have : r = 1 ∨ r = 2 ∨ r = 3 ∨ r = 4 ∨ r = 5 ∨ r = 6 ∨ r = 7 := by omega
    have h0 := cb_range bs (8 * q); have h1 := cb_range bs (8 * q + 1); have h2 := cb_range bs (8 * q + 2); have h3 := cb_range bs (8 * q + 3)
    have h4 := cb_range bs (8 * q + 4); have h5 := cb_range bs (8 * q + 5); have h6 := cb_range bs (8 * q + 6); have h7 := cb_range bs (8 * q + 7)
    have hp : ∀ j, r ≤ j → cb bs (8 * q + j) = 0 := fun j hj => cb_past (by omega)
    rcases this with rfl | rfl | rfl | rfl | rfl | rfl | rfl
    · rw [hp 1 (by omega), hp 2 (by omega), hp 3 (by omega), hp 4 (by omega), hp 5 (by omega), hp 6 (by omega), hp 7 (by omega)]; first | (simp; done) | (simp; omega)
    · rw [hp 2 (by omega), hp 3 (by omega), hp 4 (by omega), hp 5 (by omega), hp 6 (by omega), hp 7 (by omega)]; first | (simp; done) | (simp; omega)
    · rw [hp 3 (by omega), hp 4 (by omega), hp 5 (by omega), hp 6 (by omega), hp 7 (by omega)]; first | (simp; done) | (simp; omega)
    · rw [hp 4 (by omega), hp 5 (by omega), hp 6 (by omega), hp 7 (by omega)]; first | (simp; done) | (simp; omega)
    · rw [hp 5 (by omega), hp 6 (by omega), hp 7 (by omega)]; first | (simp; done) | (simp; omega)
    · rw [hp 6 (by omega), hp 7 (by omega)]; first | (simp; done) | (simp; omega)
    · rw [hp 7 (by omega)]; first | (simp; done) | (simp; omega)

end Go.Proofs.YtcgcippniicaaaaDoor
