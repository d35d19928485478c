/-
  Trailing zeros: the library's function by its table; what it says of the bits of numbers. The table holds what its initialiser lays.
-/
import Derived.Test.YtikblehndmikoaaDoorSh3
import Derived.Shelf.Spec.TrailingZeros
namespace Go.Proofs.YtikblehndmikoaaDoor
open Go.RowKit

/-- The world holds the table. -/
def Tab64 (w : World) : Prop := ∀ j, j < Lib.deBruijn64tab.length → w.cell? ⟨1, j, none⟩ = some (.int .u8 (Lib.deBruijn64tab.getD j 0))
theorem Tab64.grown {w w' : World} (h : Tab64 w) (hg : w.grownBy w' none) : Tab64 w' := fun j hj => hg.cell (h j hj) (by simp)

set_option maxHeartbeats 1000000 in
theorem tz64_core (x k idx : Nat) (w : World) (hx0 : ((x : Int) == 0) = false)
    (key : IntKind.u64.wrap (bits BinOp.and IntKind.u64 (x : Int) (IntKind.u64.wrap (-(x : Int))) * 285870213051353865) / 288230376151711744 = (idx : Int))
    (hi : idx < 64) (hk : k < 64) (hcell : w.cell? ⟨1, idx, none⟩ = some (.int .u8 (k : Int))) :
    Calls Tryd.prog 36 #[.int .u64 (x : Int)] w fun e w' => e = .returned (.int .i64 (k : Int)) ∧ w = w' := by
  go_enter Tryd.func36, Tryd.ntmps36
  go_wp2_with (simp only [key])
  go_ret
  exact ⟨rfl, rfl⟩
theorem tz64_any (x : Nat) (w : World) (hx : x < 18446744073709551616) (hx0 : x ≠ 0) (hT : Tab64 w) :
    Calls Tryd.prog 36 #[.int .u64 (x : Int)] w fun e w' => e = .returned (.int .i64 ((Lib.ctz 64 x : Nat) : Int)) ∧ w = w' := by
  obtain ⟨hlow, hk⟩ := Lib.lowest_bit 64 x hx0 hx
  obtain ⟨hi, htab⟩ := Lib.deBruijn64_at _ hk
  have hcell := hT _ hi
  rw [htab] at hcell
  exact tz64_core x _ _ w (by simp; omega) (tz64_key x _ hx hx0 hlow) hi hk hcell

set_option maxHeartbeats 1000000 in
theorem tz_any (x : Nat) (w : World) (hx : x < 18446744073709551616) (hx0 : x ≠ 0) (hT : Tab64 w) :
    Calls Tryd.prog 25 #[.int .u64 (x : Int)] w fun e w' => e = .returned (.int .i64 ((Lib.ctz 64 x : Nat) : Int)) ∧ w = w' := by
  have k := tz64_any x w hx hx0 hT
  have hw : IntKind.u64.wrap (x : Int) = (x : Int) := by rw [IntKind.wrap_u64]; omega
  clear hT
  go_enter Tryd.func25, Tryd.ntmps25
  go_wp2_with fail
  refine k.mono ?_
  rintro e w' ⟨rfl, rfl⟩
  clear k
  go_wp2
  go_ret
  exact ⟨rfl, rfl⟩

/-! What the number of trailing zeros says. -/
theorem dvd_odd {s c m : Nat} : 2 ^ s ∣ 2 ^ c * (2 * m + 1) ↔ s ≤ c := by
  constructor
  · intro h
    apply Nat.le_of_not_lt
    intro hlt
    have h1 : 2 ^ (c + 1) ∣ 2 ^ c * (2 * m + 1) := Nat.dvd_trans (Nat.pow_dvd_pow 2 hlt) h
    rw [Nat.pow_succ] at h1
    have h2 := Nat.dvd_of_mul_dvd_mul_left (Nat.pow_pos (by omega)) h1
    omega
  · intro h
    exact Nat.dvd_trans (Nat.pow_dvd_pow 2 h) (Nat.dvd_mul_right _ _)
theorem ctz_iff {x s : Nat} (h0 : x ≠ 0) (h : x < 2 ^ 64) : x % 2 ^ s = 0 ↔ s ≤ Lib.ctz 64 x := by
  obtain ⟨m, hm, _⟩ := Lib.ctzFrom_spec 64 x (by omega) h
  have e : Lib.ctz 64 x = Lib.ctzFrom 64 x := by unfold Lib.ctz; rw [if_neg h0]
  rw [e, ← Nat.dvd_iff_mod_eq_zero]
  generalize Lib.ctzFrom 64 x = c at *
  rw [hm]; exact dvd_odd

/-- All numbers are 0. -/
def zeroL (xs : List Int) : Bool := xs.all (fun x => decide (x = 0))
/-- The number of wasted bits. -/
def wbs (xs : List Int) : Nat := if zeroL xs then 0 else Lib.ctz 64 (orL xs % 18446744073709551616).toNat
theorem orL_zero {xs : List Int} (h : zeroL xs = true) : orL xs = 0 := by
  unfold orL zeroL at *
  have hz : bits .or .i64 0 0 = 0 := by decide
  induction xs with
  | nil => rfl
  | cons x xs ih =>
    simp only [List.all_cons, Bool.and_eq_true, decide_eq_true_eq] at h
    rw [List.foldl_cons, h.1, hz]
    exact ih h.2
theorem even_zero {xs : List Int} (ha : allB xs (-65536) 65536 = true) {s : Nat} (hs : 17 ≤ s) (h : evenL s xs = true) : zeroL xs = true := by
  unfold zeroL
  rw [List.all_eq_true]
  intro x hx
  have hb : inB x (-65536) 65536 = true := by unfold allB at ha; rw [List.all_eq_true] at ha; exact ha x hx
  have hb2 : -65536 ≤ x ∧ x ≤ 65536 := by simpa [inB] using hb
  have he : x % 2 ^ s = 0 := by unfold evenL at h; rw [List.all_eq_true] at h; simpa using h x hx
  have hd : (2 : Int) ^ 17 ∣ x := Int.dvd_trans (by obtain ⟨d, rfl⟩ : ∃ d, s = 17 + d := ⟨s - 17, by omega⟩
                                                    rw [Int.pow_add]; exact Int.dvd_mul_right _ _) (Int.dvd_of_emod_eq_zero he)
  obtain ⟨q, hq⟩ := hd
  have h17 : (2 : Int) ^ 17 = 131072 := by decide
  rw [h17] at hq
  simp; omega
theorem zero_even {xs : List Int} (h : zeroL xs = true) (s : Nat) : evenL s xs = true := by
  unfold zeroL evenL at *
  rw [List.all_eq_true] at *
  intro x hx
  have := h x hx
  simp at this; subst this; simp
theorem orL_nat {xs : List Int} (ha : allB xs (-65536) 65536 = true) (hz : zeroL xs = false) :
    ∃ x : Nat, orL xs % 18446744073709551616 = (x : Int) ∧ x ≠ 0 ∧ x < 18446744073709551616 ∧ ∀ s, s ≤ 60 → (x % 2 ^ s = 0 ↔ evenL s xs = true) := by
  have h0 : 0 ≤ orL xs % 18446744073709551616 := Int.emod_nonneg _ (by omega)
  have h1 : orL xs % 18446744073709551616 < 18446744073709551616 := Int.emod_lt_of_pos _ (by omega)
  obtain ⟨x, hx⟩ := Int.eq_ofNat_of_zero_le h0
  have key : ∀ s, s ≤ 60 → (x % 2 ^ s = 0 ↔ evenL s xs = true) := by
    intro s hs
    rw [← orL_mod xs s hs]
    have e : (18446744073709551616 : Int) = 2 ^ s * 2 ^ (64 - s) := by rw [← Int.pow_add, show s + (64 - s) = 64 by omega]; decide
    have e2 : orL xs % 2 ^ s = (x : Int) % 2 ^ s := by rw [← hx, e, Int.emod_emod_of_dvd _ (Int.dvd_mul_right _ _)]
    rw [e2]
    have e3 : ((x % 2 ^ s : Nat) : Int) = (x : Int) % 2 ^ s := by simp
    omega
  refine ⟨x, hx, ?_, by omega, key⟩
  rintro rfl
  have := (key 60 (by omega)).1 (by simp)
  rw [even_zero ha (by omega) this] at hz
  cases hz
/-- The numbers are multiples of a power of 2 as far as bits are wasted. -/
theorem wbs_iff {xs : List Int} (ha : allB xs (-65536) 65536 = true) (hz : zeroL xs = false) {s : Nat} (hs : s ≤ 60) : evenL s xs = true ↔ s ≤ wbs xs := by
  obtain ⟨x, hx, h0, h1, key⟩ := orL_nat ha hz
  unfold wbs
  rw [hz, hx]
  rw [← key s hs]
  exact ctz_iff h0 h1
theorem wbs_le {xs : List Int} (ha : allB xs (-65536) 65536 = true) : wbs xs ≤ 16 := by
  cases hz : zeroL xs with
  | true => unfold wbs; rw [if_pos hz]; omega
  | false =>
    apply Nat.le_of_not_lt
    intro h
    have := (wbs_iff ha hz (s := 17) (by omega)).2 h
    rw [even_zero ha (by omega) this] at hz
    cases hz

end Go.Proofs.YtikblehndmikoaaDoor
