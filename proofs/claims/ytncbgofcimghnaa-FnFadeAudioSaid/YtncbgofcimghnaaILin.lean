/-
  The program's range test on lists, and both tests of predictors. No condition but lengths.
-/
import Derived.Test.YtncbgofcimghnaaOwn
import Derived.Test.YtncbgofcimghnaaQMath
import Derived.Deep.RegionHeld3
namespace Go.Proofs.Ytncbgofcimghnaa
open Go.RowKit

set_option maxHeartbeats 400000 in
theorem iAllIn_any (xs : List Int) (lo hi : Int) (ao : Option Addr) (len cap : Nat) (w : World) (v : Bool) (hx : Ints w ao len xs) (hlen : len ≤ 4611686018427387904) (hv : allB xs lo hi = v) :
    Calls Try.prog 39 #[.int .i64 lo, .int .i64 hi, .slice ao len cap] w fun e w' => e = .returned (.bool v) ∧ w = w' := by
  subst hv
  obtain ⟨hl, hx | ⟨b, off, rfl, hc⟩⟩ := hx
  · subst hx
    obtain rfl : len = 0 := by simpa using hl.symm
    clear hl
    rw [show allB [] lo hi = true from rfl]
    go_enter Try.func39, Try.ntmps39
    go_wp2
    refine wp_loop_rounds 1 ?_
    rw [rounds_succ]
    go_wp2
    go_ret
    exact ⟨rfl, rfl⟩
  have HL := Lib.hid hl
  have HC := Lib.hid hc
  clear hl hc
  go_enter Try.func39, Try.ntmps39
  go_wp2
  go_loop [11] (fun i => ∃ k : Nat, k ≤ len ∧ i = .int .i64 k ∧ Hid (allB (xs.take k) lo hi = true)) (fun i => len - (intOf i).toNat)
  case atStart => exact ⟨0, Nat.zero_le _, rfl, rfl⟩
  case round =>
    obtain ⟨k, hk, rfl, ha⟩ := hrel
    by_cases hlt : k < len
    · obtain ⟨x, hxk⟩ : ∃ x, xs[k]? = some x := ⟨_, List.getElem?_eq_getElem (by rw [HL.out]; exact hlt)⟩
      have hcx := HC.out k x hxk
      have HX := Lib.hid hxk
      clear hxk
      by_cases h1 : x < lo
      · have HB := Lib.hid (allB_false (lo := lo) (hi := hi) HX.out (inB_false (by omega)))
        have h1' : decide (x < lo) = true := by simpa using h1
        go_wp2
        go_ret
        exact ⟨ret_bool HB.out.symm, rfl⟩
      have h1' : decide (x < lo) = false := by simp; omega
      by_cases h2 : hi < x
      · have HB := Lib.hid (allB_false (lo := lo) (hi := hi) HX.out (inB_false (by omega)))
        have h2' : decide (hi < x) = true := by simp; omega
        go_wp2
        go_ret
        exact ⟨ret_bool HB.out.symm, rfl⟩
      · have HB := Lib.hid (allB_take (lo := lo) (hi := hi) HX.out (inB_true (by omega) (by omega)) ha.out)
        have h2' : decide (hi < x) = false := by simp; omega
        go_wp2
        go_round
        case rel => exact ⟨k + 1, by omega, by go_num, HB.out⟩
        case measure => simp [intOf]; omega
    · have HF := Lib.hid (allB_full (by rw [HL.out]; omega) ha.out)
      go_wp2
      go_ret
      exact ⟨ret_bool HF.out.symm, rfl⟩

theorem allB_one (x lo hi : Int) : allB [x] lo hi = inB x lo hi := by simp [allB]

/-- A predictor is valid. -/
def vLin (xs : List Int) (sh : Int) : Bool := decide (1 ≤ xs.length ∧ xs.length ≤ 8) && allB xs (-4095) 4095 && inB sh 0 14

/-! Division, rounded down. -/
theorem tdiv_range {a b : Int} (h0 : -1000000000000 ≤ a) (h1 : a ≤ 1000000000000) : -1000000000000 ≤ a.tdiv b ∧ a.tdiv b ≤ 1000000000000 := by
  have := Int.natAbs_tdiv_le_natAbs a b
  omega

set_option maxHeartbeats 400000 in
theorem sFloor_any (a b : Int) (w : World) (hb : 0 < b) (h0 : -1000000000000 ≤ a) (h1 : a ≤ 1000000000000) :
    Calls Try.prog 53 #[.int .i64 a, .int .i64 b] w fun e w' => e = .returned (.int .i64 (a / b)) ∧ w = w' := by
  have hq0 := (tdiv_range (b := b) h0 h1).1
  have hq1 := (tdiv_range (b := b) h0 h1).2
  have HF := Lib.hid (floor_of (a := a) hb)
  go_enter Try.func53, Try.ntmps53
  go_wp2
  · go_ret
    exact ⟨ret_int (by rw [← HF.out, if_pos (by assumption)]), rfl⟩
  · go_ret
    exact ⟨ret_int (by rw [← HF.out, if_neg (by omega)]), rfl⟩

set_option maxHeartbeats 400000 in
theorem iFloor_any (a b : Int) (w : World) (hb : 0 < b) (h0 : -1000000000000 ≤ a) (h1 : a ≤ 1000000000000) :
    Calls Try.prog 81 #[.int .i64 a, .int .i64 b] w fun e w' => e = .returned (.int .i64 (a / b)) ∧ w = w' := by
  have hq0 := (tdiv_range (b := b) h0 h1).1
  have hq1 := (tdiv_range (b := b) h0 h1).2
  have HF := Lib.hid (floor_of (a := a) hb)
  go_enter Try.func81, Try.ntmps81
  go_wp2
  · go_ret
    exact ⟨ret_int (by rw [← HF.out, if_pos (by assumption)]), rfl⟩
  · go_ret
    exact ⟨ret_int (by rw [← HF.out, if_neg (by omega)]), rfl⟩

set_option maxHeartbeats 400000 in
theorem iRound_any (a b : Int) (w : World) (hb : 0 < b) (hb1 : b ≤ 100000) (h0 : -10000000000 ≤ a) (h1 : a ≤ 10000000000) :
    Calls Try.prog 70 #[.int .i64 a, .int .i64 b] w fun e w' => e = .returned (.int .i64 ((2 * a + b) / (2 * b))) ∧ w = w' := by
  have k := iFloor_any (2 * a + b) (2 * b) w (by omega) (by omega) (by omega)
  go_enter Try.func70, Try.ntmps70
  go_wp2_with fail
  refine k.mono ?_
  rintro e w' ⟨rfl, rfl⟩
  clear k
  go_wp2
  go_ret
  exact ⟨rfl, rfl⟩

end Go.Proofs.Ytncbgofcimghnaa
