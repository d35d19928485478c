/-
  Pairs of channels as plain mathematics: what the modes store, and what they give back. No condition.
-/
import Derived.Test.YtncbgofcimghnaaSum
namespace Go.Proofs.Ytncbgofcimghnaa
open Go.RowKit

/-- The first number that a mode stores. -/
def stA (m : Nat) (l r : Int) : Int := if m = 0 then l else if m = 1 then l else if m = 2 then l - r else (l + r) / 2
/-- The second one. -/
def stB (m : Nat) (l r : Int) : Int := if m = 0 then r else if m = 1 then l - r else if m = 2 then r else l - r
/-- What a mode gives back. -/
def unA (m : Nat) (a b : Int) : Int := if m = 0 then a else if m = 1 then a else if m = 2 then a + b else (2 * a + b % 2 + b) / 2
def unB (m : Nat) (a b : Int) : Int := if m = 0 then b else if m = 1 then a - b else if m = 2 then b else (2 * a + b % 2 - b) / 2

theorem mode_four {m : Nat} (h : m ≤ 3) : m = 0 ∨ m = 1 ∨ m = 2 ∨ m = 3 := by omega
theorem un_stA {m : Nat} (h : m ≤ 3) (l r : Int) : unA m (stA m l r) (stB m l r) = l := by
  rcases mode_four h with rfl | rfl | rfl | rfl <;> simp [stA, stB, unA] <;> omega
theorem un_stB {m : Nat} (h : m ≤ 3) (l r : Int) : unB m (stA m l r) (stB m l r) = r := by
  rcases mode_four h with rfl | rfl | rfl | rfl <;> simp [stA, stB, unB] <;> omega
theorem st_unA {m : Nat} (h : m ≤ 3) (a b : Int) : stA m (unA m a b) (unB m a b) = a := by
  rcases mode_four h with rfl | rfl | rfl | rfl <;> simp [stA, unA, unB] <;> omega
theorem st_unB {m : Nat} (h : m ≤ 3) (a b : Int) : stB m (unA m a b) (unB m a b) = b := by
  rcases mode_four h with rfl | rfl | rfl | rfl <;> simp [stB, unA, unB] <;> omega
theorem stA_range {m : Nat} {l r : Int} (h1 : -32767 ≤ l ∧ l ≤ 32767) (h2 : -32767 ≤ r ∧ r ≤ 32767) : -65534 ≤ stA m l r ∧ stA m l r ≤ 65534 := by
  unfold stA; split <;> (try split) <;> (try split) <;> omega
theorem stB_range {m : Nat} {l r : Int} (h1 : -32767 ≤ l ∧ l ≤ 32767) (h2 : -32767 ≤ r ∧ r ≤ 32767) : -65534 ≤ stB m l r ∧ stB m l r ≤ 65534 := by
  unfold stB; split <;> (try split) <;> (try split) <;> omega
theorem tdiv_even {x : Int} (h : x % 2 = 0) : x.tdiv 2 = x / 2 := Int.tdiv_eq_ediv_of_dvd (by omega)

/-! Lists of pairs. -/
theorem zip_get {f : Int → Int → Int} {xs ys : List Int} {k : Nat} {x y : Int} (hx : xs[k]? = some x) (hy : ys[k]? = some y) : (List.zipWith f xs ys)[k]? = some (f x y) := by
  rw [List.getElem?_zipWith, hx, hy]
theorem zip_take {f : Int → Int → Int} {xs ys : List Int} {k : Nat} {x y : Int} (hx : xs[k]? = some x) (hy : ys[k]? = some y) :
    List.zipWith f (xs.take (k + 1)) (ys.take (k + 1)) = List.zipWith f (xs.take k) (ys.take k) ++ [f x y] := by
  rw [← List.take_zipWith, ← List.take_zipWith, List.take_add_one, zip_get hx hy]; rfl
theorem zip_len {f : Int → Int → Int} {xs ys : List Int} {n : Nat} (h1 : xs.length = n) (h2 : ys.length = n) : (List.zipWith f xs ys).length = n := by
  rw [List.length_zipWith, h1, h2]; omega
theorem zip_full {f : Int → Int → Int} {xs ys : List Int} {n : Nat} (h1 : xs.length = n) (h2 : ys.length = n) : List.zipWith f (xs.take n) (ys.take n) = List.zipWith f xs ys := by
  rw [List.take_of_length_le (by omega), List.take_of_length_le (by omega)]
theorem zip_back {f g h : Int → Int → Int} {xs ys : List Int} (hl : xs.length = ys.length) (hf : ∀ a b, h (f a b) (g a b) = a) : List.zipWith h (List.zipWith f xs ys) (List.zipWith g xs ys) = xs := by
  induction xs generalizing ys with
  | nil => simp
  | cons x xs ih =>
    cases ys with
    | nil => simp at hl
    | cons y ys => simp at hl; simp [hf, ih hl]
theorem zip_back2 {f g h : Int → Int → Int} {xs ys : List Int} (hl : xs.length = ys.length) (hf : ∀ a b, h (f a b) (g a b) = b) : List.zipWith h (List.zipWith f xs ys) (List.zipWith g xs ys) = ys := by
  induction xs generalizing ys with
  | nil => cases ys with
    | nil => simp
    | cons y ys => simp at hl
  | cons x xs ih =>
    cases ys with
    | nil => simp at hl
    | cons y ys => simp at hl; simp [hf, ih hl]
theorem zip_first {xs ys : List Int} (hl : xs.length = ys.length) : List.zipWith (fun a _ => a) xs ys = xs := by
  induction xs generalizing ys with
  | nil => simp
  | cons x xs ih =>
    cases ys with
    | nil => simp at hl
    | cons y ys => simp at hl; simp [ih hl]
theorem zip_second {xs ys : List Int} (hl : xs.length = ys.length) : List.zipWith (fun _ b => b) xs ys = ys := by
  induction xs generalizing ys with
  | nil => cases ys with
    | nil => simp
    | cons y ys => simp at hl
  | cons x xs ih =>
    cases ys with
    | nil => simp at hl
    | cons y ys => simp at hl; simp [ih hl]
theorem zip_swap {f g : Int → Int → Int} {xs ys : List Int} (hf : ∀ a b, f a b = g b a) : List.zipWith f xs ys = List.zipWith g ys xs := by
  induction xs generalizing ys with
  | nil => cases ys <;> simp
  | cons x xs ih =>
    cases ys with
    | nil => simp
    | cons y ys => simp [hf, ih]
theorem zip_range {f : Int → Int → Int} {xs ys : List Int} {lo hi LO HI : Int} (h1 : allB xs lo hi = true) (h2 : allB ys lo hi = true) (hf : ∀ a b, lo ≤ a ∧ a ≤ hi → lo ≤ b ∧ b ≤ hi → LO ≤ f a b ∧ f a b ≤ HI) : allB (List.zipWith f xs ys) LO HI = true := by
  induction xs generalizing ys with
  | nil => simp [allB]
  | cons x xs ih =>
    cases ys with
    | nil => simp [allB]
    | cons y ys =>
      have a1 : inB x lo hi = true ∧ allB xs lo hi = true := by simpa [allB] using h1
      have a2 : inB y lo hi = true ∧ allB ys lo hi = true := by simpa [allB] using h2
      have b1 := hf x y (by simpa [inB] using a1.1) (by simpa [inB] using a2.1)
      have := ih a1.2 a2.2
      simp [allB, inB, b1]
      simpa [allB, inB] using this

/-- Two channels are valid. -/
def vP (xs ys : List Int) (most : Int) : Bool := decide (xs.length = ys.length) && decide (xs.length ≤ 64) && allB xs (-most) most && allB ys (-most) most
theorem vP_of {xs ys : List Int} {most : Int} (h : vP xs ys most = true) : xs.length = ys.length ∧ xs.length ≤ 64 ∧ allB xs (-most) most = true ∧ allB ys (-most) most = true := by
  unfold vP at h
  simp only [Bool.and_eq_true, decide_eq_true_eq] at h
  exact ⟨h.1.1.1, h.1.1.2, h.1.2, h.2⟩
theorem vP_intro {xs ys : List Int} {most : Int} (h1 : xs.length = ys.length) (h2 : xs.length ≤ 64) (h3 : allB xs (-most) most = true) (h4 : allB ys (-most) most = true) : vP xs ys most = true := by
  unfold vP; simp [h1, h3, h4]; omega
theorem vP_st {m : Nat} {xs ys : List Int} (h : vP xs ys 32767 = true) : vP (List.zipWith (stA m) xs ys) (List.zipWith (stB m) xs ys) 65536 = true := by
  obtain ⟨h1, h2, h3, h4⟩ := vP_of h
  refine vP_intro (by simp) (by simp; omega) ?_ ?_
  · exact allB_mono (zip_range h3 h4 (fun a b ha hb => stA_range ha hb)) (by omega) (by omega)
  · exact allB_mono (zip_range h3 h4 (fun a b ha hb => stB_range ha hb)) (by omega) (by omega)

/-- Whether channels can be stored. -/
def eOk (m : Int) (xs ys : List Int) : Bool := inB m 0 3 && vP xs ys 32767
def eA (m : Int) (xs ys : List Int) : List Int := if eOk m xs ys then List.zipWith (stA m.toNat) xs ys else []
def eB (m : Int) (xs ys : List Int) : List Int := if eOk m xs ys then List.zipWith (stB m.toNat) xs ys else []
/-- Whether lists give channels back. -/
def dOk (m : Int) (xs ys : List Int) : Bool := inB m 0 3 && vP xs ys 65536 && vP (List.zipWith (unA m.toNat) xs ys) (List.zipWith (unB m.toNat) xs ys) 32767
def dA (m : Int) (xs ys : List Int) : List Int := if dOk m xs ys then List.zipWith (unA m.toNat) xs ys else []
def dB (m : Int) (xs ys : List Int) : List Int := if dOk m xs ys then List.zipWith (unB m.toNat) xs ys else []

theorem eOk_of {m : Int} {xs ys : List Int} (h : eOk m xs ys = true) : 0 ≤ m ∧ m ≤ 3 ∧ vP xs ys 32767 = true := by
  unfold eOk at h
  rw [Bool.and_eq_true] at h
  have : 0 ≤ m ∧ m ≤ 3 := by simpa [inB] using h.1
  exact ⟨this.1, this.2, h.2⟩
theorem dOk_of {m : Int} {xs ys : List Int} (h : dOk m xs ys = true) : 0 ≤ m ∧ m ≤ 3 ∧ vP xs ys 65536 = true ∧ vP (List.zipWith (unA m.toNat) xs ys) (List.zipWith (unB m.toNat) xs ys) 32767 = true := by
  unfold dOk at h
  rw [Bool.and_eq_true, Bool.and_eq_true] at h
  have : 0 ≤ m ∧ m ≤ 3 := by simpa [inB] using h.1.1
  exact ⟨this.1, this.2, h.1.2, h.2⟩
theorem eOk_swap {m m' : Int} {xs ys : List Int} (h : eOk m xs ys = true) (hm : 0 ≤ m' ∧ m' ≤ 3) : eOk m' ys xs = true ∧ eOk m' xs ys = true := by
  obtain ⟨_, _, h3⟩ := eOk_of h
  obtain ⟨a1, a2, a3, a4⟩ := vP_of h3
  have hi : inB m' 0 3 = true := by simpa [inB] using hm
  unfold eOk
  rw [hi, h3, vP_intro (by omega) (by omega) a4 a3]
  exact ⟨rfl, rfl⟩

/-- What was stored is given back. -/
theorem dOk_e {m : Int} {xs ys : List Int} (h : eOk m xs ys = true) : dOk m (eA m xs ys) (eB m xs ys) = true ∧ dA m (eA m xs ys) (eB m xs ys) = xs ∧ dB m (eA m xs ys) (eB m xs ys) = ys := by
  obtain ⟨h1, h2, h3⟩ := eOk_of h
  obtain ⟨a1, a2, a3, a4⟩ := vP_of h3
  have hm : m.toNat ≤ 3 := by omega
  have e1 : eA m xs ys = List.zipWith (stA m.toNat) xs ys := by unfold eA; rw [if_pos h]
  have e2 : eB m xs ys = List.zipWith (stB m.toNat) xs ys := by unfold eB; rw [if_pos h]
  have b1 : List.zipWith (unA m.toNat) (eA m xs ys) (eB m xs ys) = xs := by rw [e1, e2]; exact zip_back a1 (un_stA hm)
  have b2 : List.zipWith (unB m.toNat) (eA m xs ys) (eB m xs ys) = ys := by rw [e1, e2]; exact zip_back2 a1 (un_stB hm)
  have hi : inB m 0 3 = true := by simp [inB]; omega
  have hd : dOk m (eA m xs ys) (eB m xs ys) = true := by
    unfold dOk
    rw [b1, b2, hi, h3, e1, e2, vP_st h3]; rfl
  refine ⟨hd, ?_, ?_⟩
  · unfold dA; rw [if_pos hd, b1]
  · unfold dB; rw [if_pos hd, b2]
/-- What was given back is stored so. -/
theorem eOk_d {m : Int} {xs ys : List Int} (h : dOk m xs ys = true) : eOk m (dA m xs ys) (dB m xs ys) = true ∧ eA m (dA m xs ys) (dB m xs ys) = xs ∧ eB m (dA m xs ys) (dB m xs ys) = ys := by
  obtain ⟨h1, h2, h3, h4⟩ := dOk_of h
  obtain ⟨a1, a2, a3, a4⟩ := vP_of h3
  have hm : m.toNat ≤ 3 := by omega
  have e1 : dA m xs ys = List.zipWith (unA m.toNat) xs ys := by unfold dA; rw [if_pos h]
  have e2 : dB m xs ys = List.zipWith (unB m.toNat) xs ys := by unfold dB; rw [if_pos h]
  have hi : inB m 0 3 = true := by simp [inB]; omega
  have hd : eOk m (dA m xs ys) (dB m xs ys) = true := by
    unfold eOk; rw [e1, e2, hi, h4]; rfl
  refine ⟨hd, ?_, ?_⟩
  · unfold eA; rw [if_pos hd, e1, e2]; exact zip_back a1 (st_unA hm)
  · unfold eB; rw [if_pos hd, e1, e2]; exact zip_back2 a1 (st_unB hm)

end Go.Proofs.Ytncbgofcimghnaa
