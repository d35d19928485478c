/-
  The program's range test on lists, and both tests of predictors. No condition but lengths.
-/
import Derived.Test.YtgiiaijlahjfnaaOwn
import Derived.Test.YtgiiaijlahjfnaaQMath
import Derived.Deep.RegionHeld3
namespace Go.Proofs.Ytgiiaijlahjfnaa
open Go.RowKit

set_option maxHeartbeats 400000 in
theorem iAllIn_any (xs : List Int) (lo hi : Int) (ao : Option Addr) (len cap : Nat) (w : World) (v : Bool) (hx : Ints w ao len xs) (hlen : len ≤ 4611686018427387904) (hv : allB xs lo hi = v) :
    Calls Try.prog 61 #[.int .i64 lo, .int .i64 hi, .slice ao len cap] w fun e w' => e = .returned (.bool v) ∧ w = w' := by
  subst hv
  obtain ⟨hl, hx | ⟨b, off, rfl, hc⟩⟩ := hx
  · subst hx
    obtain rfl : len = 0 := by simpa using hl.symm
    clear hl
    rw [show allB [] lo hi = true from rfl]
    go_enter Try.func61, Try.ntmps61
    go_wp2
    refine wp_loop_rounds 1 ?_
    rw [rounds_succ]
    go_wp2
    go_ret
    exact ⟨rfl, rfl⟩
  have HL := Lib.hid hl
  have HC := Lib.hid hc
  clear hl hc
  go_enter Try.func61, Try.ntmps61
  go_wp2
  go_loop [11] (fun i => ∃ k : Nat, k ≤ len ∧ i = .int .i64 k ∧ Hid (allB (xs.take k) lo hi = true)) (fun i => len - (intOf i).toNat)
  case atStart => exact ⟨0, Nat.zero_le _, rfl, rfl⟩
  case round =>
    obtain ⟨k, hk, rfl, ha⟩ := hrel
    by_cases hlt : k < len
    · obtain ⟨x, hxk⟩ : ∃ x, xs[k]? = some x := ⟨_, List.getElem?_eq_getElem (by rw [HL.out]; exact hlt)⟩
      have hcx := HC.out k x hxk
      have HX := Lib.hid hxk
      clear hxk
      by_cases h1 : x < lo
      · have HB := Lib.hid (allB_false (lo := lo) (hi := hi) HX.out (inB_false (by omega)))
        have h1' : decide (x < lo) = true := by simpa using h1
        go_wp2
        go_ret
        exact ⟨ret_bool HB.out.symm, rfl⟩
      have h1' : decide (x < lo) = false := by simp; omega
      by_cases h2 : hi < x
      · have HB := Lib.hid (allB_false (lo := lo) (hi := hi) HX.out (inB_false (by omega)))
        have h2' : decide (hi < x) = true := by simp; omega
        go_wp2
        go_ret
        exact ⟨ret_bool HB.out.symm, rfl⟩
      · have HB := Lib.hid (allB_take (lo := lo) (hi := hi) HX.out (inB_true (by omega) (by omega)) ha.out)
        have h2' : decide (hi < x) = false := by simp; omega
        go_wp2
        go_round
        case rel => exact ⟨k + 1, by omega, by go_num, HB.out⟩
        case measure => simp [intOf]; omega
    · have HF := Lib.hid (allB_full (by rw [HL.out]; omega) ha.out)
      go_wp2
      go_ret
      exact ⟨ret_bool HF.out.symm, rfl⟩

theorem allB_one (x lo hi : Int) : allB [x] lo hi = inB x lo hi := by simp [allB]

/-- A predictor is valid. -/
def vLin (xs : List Int) (sh : Int) : Bool := decide (1 ≤ xs.length ∧ xs.length ≤ 8) && allB xs (-4095) 4095 && inB sh 0 14

set_option maxHeartbeats 1000000 in
theorem iValid_any (xs : List Int) (sh : Int) (ao : Option Addr) (len cap : Nat) (w : World) (v : Bool) (hx : Ints w ao len xs) (hmax : len ≤ 4611686018427387904) (hv : vLin xs sh = v) :
    Calls Try.prog 85 #[.agg #[.slice ao len cap, .int .i64 sh]] w fun e w' => e = .returned (.bool v) ∧ w.grownBy w' none := by
  have hl := hx.1
  have k1 := iAllIn_any xs (-4095) 4095 ao len cap (w.alloc (.cells #[.slice ao len cap, .int .i64 sh] 25)) (allB xs (-4095) 4095) (hx.grown (grown_alloc _ _ _)) (by omega) rfl
  have k2 := iAllIn_any [sh] 0 14 (some ⟨w.heap.size + 1, 0, none⟩) 1 1 ((w.alloc (.cells #[.slice ao len cap, .int .i64 sh] 25)).alloc (.cells #[.int .i64 sh] 3)) (inB sh 0 14) (by have := ints_one (w.alloc (.cells #[.slice ao len cap, .int .i64 sh] 25)) sh 3; simpa using this) (by omega) (allB_one _ _ _)
  clear hx
  by_cases h1 : len = 0
  · have d1 : decide (1 ≤ (len : Int)) = false := by simp; omega
    have hv' : v = false := by subst hv; unfold vLin; rw [hl, h1]; rfl
    subst hv'
    clear hv hl k1 k2 h1
    go_enter Try.func85, Try.ntmps85
    go_wp2
    go_ret
    exact ⟨rfl, grown_alloc _ _ _⟩
  have d1 : decide (1 ≤ (len : Int)) = true := by simp; omega
  by_cases h2 : 8 < len
  · have d2 : decide ((len : Int) ≤ 8) = false := by simp; omega
    have hv' : v = false := by subst hv; unfold vLin; rw [hl]; simp; intro h3 h4; omega
    subst hv'
    clear hv hl k1 k2 h1 h2
    go_enter Try.func85, Try.ntmps85
    go_wp2
    go_ret
    exact ⟨rfl, grown_alloc _ _ _⟩
  have d2 : decide ((len : Int) ≤ 8) = true := by simp; omega
  have hv' : v = (allB xs (-4095) 4095 && inB sh 0 14) := by
    subst hv; unfold vLin; rw [hl, show decide (1 ≤ len ∧ len ≤ 8) = true by simp; omega]; simp
  have HV := Lib.hid hv'
  have HL := Lib.hid hl
  clear hv hv' hl h1 h2
  cases ha : allB xs (-4095) 4095 with
  | false =>
    rw [ha] at k1
    have HF : Hid (v = false) := by show v = false; rw [HV.out, ha]; rfl
    clear ha k2
    go_enter Try.func85, Try.ntmps85
    go_wp2_with fail
    refine k1.mono ?_
    rintro e w' ⟨rfl, rfl⟩
    clear k1
    go_wp2
    go_ret
    exact ⟨ret_bool HF.out.symm, grown_alloc _ _ _⟩
  | true =>
    rw [ha] at k1
    have HF : Hid (v = inB sh 0 14) := by show v = _; rw [HV.out, ha]; rfl
    clear ha
    go_enter Try.func85, Try.ntmps85
    go_wp2_with fail
    refine k1.mono ?_
    rintro e w' ⟨rfl, rfl⟩
    clear k1
    go_wp2_with fail
    refine k2.mono ?_
    rintro e w' ⟨rfl, rfl⟩
    clear k2
    go_wp2
    go_ret
    exact ⟨ret_bool HF.out.symm, grown_trans (grown_alloc _ _ _) (grown_alloc _ _ _)⟩

set_option maxHeartbeats 1000000 in
theorem sValid_any (xs : List Int) (sh : Int) (ao : Option Addr) (len cap : Nat) (w : World) (v : Bool) (hx : Ints w ao len xs) (hmax : len ≤ 4611686018427387904) (hv : vLin xs sh = v) :
    Calls Try.prog 38 #[.agg #[.slice ao len cap, .int .i64 sh]] w fun e w' => e = .returned (.bool v) ∧ w.grownBy w' none := by
  have hl := hx.1
  have k1 := allIn_any xs (-4095) 4095 ao len cap (w.alloc (.cells #[.slice ao len cap, .int .i64 sh] 25)) (hx.grown (grown_alloc _ _ _)) (by omega)
  have k2 := inRange_any sh 0 14 _ (w.alloc (.cells #[.slice ao len cap, .int .i64 sh] 25)) rfl
  clear hx
  by_cases h1 : 1 ≤ len ∧ len ≤ 8
  · have k0 := inRange_any (len : Int) 1 8 true (w.alloc (.cells #[.slice ao len cap, .int .i64 sh] 25)) (inB_true (by omega) (by omega))
    have hv' : v = (allB xs (-4095) 4095 && inB sh 0 14) := by
      subst hv; unfold vLin; rw [hl, show decide (1 ≤ len ∧ len ≤ 8) = true by simp; omega]; simp
    have HV := Lib.hid hv'
    clear hv hv' hl h1
    cases ha : allB xs (-4095) 4095 with
    | false =>
      rw [ha] at k1
      have HF : Hid (v = false) := by show v = false; rw [HV.out, ha]; rfl
      clear ha k2
      go_enter Try.func38, Try.ntmps38
      go_wp2_with fail
      refine k0.mono ?_
      rintro e w' ⟨rfl, rfl⟩
      clear k0
      go_wp2_with fail
      refine k1.mono ?_
      rintro e w' ⟨rfl, rfl⟩
      clear k1
      go_wp2
      go_ret
      exact ⟨ret_bool HF.out.symm, grown_alloc _ _ _⟩
    | true =>
      rw [ha] at k1
      have HF : Hid (v = inB sh 0 14) := by show v = _; rw [HV.out, ha]; rfl
      clear ha
      go_enter Try.func38, Try.ntmps38
      go_wp2_with fail
      refine k0.mono ?_
      rintro e w' ⟨rfl, rfl⟩
      clear k0
      go_wp2_with fail
      refine k1.mono ?_
      rintro e w' ⟨rfl, rfl⟩
      clear k1
      go_wp2_with fail
      refine k2.mono ?_
      rintro e w' ⟨rfl, rfl⟩
      clear k2
      go_wp2
      go_ret
      exact ⟨ret_bool HF.out.symm, grown_alloc _ _ _⟩
  · have k0 := inRange_any (len : Int) 1 8 false (w.alloc (.cells #[.slice ao len cap, .int .i64 sh] 25)) (inB_false (by omega))
    have hv' : v = false := by
      subst hv; unfold vLin; rw [hl, show decide (1 ≤ len ∧ len ≤ 8) = false by simp; omega]; simp
    subst hv'
    clear hv hl h1 k1 k2
    go_enter Try.func38, Try.ntmps38
    go_wp2_with fail
    refine k0.mono ?_
    rintro e w' ⟨rfl, rfl⟩
    clear k0
    go_wp2
    go_ret
    exact ⟨rfl, grown_alloc _ _ _⟩

/-! Division, rounded down. -/
theorem tdiv_range {a b : Int} (h0 : -1000000000000 ≤ a) (h1 : a ≤ 1000000000000) : -1000000000000 ≤ a.tdiv b ∧ a.tdiv b ≤ 1000000000000 := by
  have := Int.natAbs_tdiv_le_natAbs a b
  omega

set_option maxHeartbeats 400000 in
theorem sFloor_any (a b : Int) (w : World) (hb : 0 < b) (h0 : -1000000000000 ≤ a) (h1 : a ≤ 1000000000000) :
    Calls Try.prog 66 #[.int .i64 a, .int .i64 b] w fun e w' => e = .returned (.int .i64 (a / b)) ∧ w = w' := by
  have hq0 := (tdiv_range (b := b) h0 h1).1
  have hq1 := (tdiv_range (b := b) h0 h1).2
  have HF := Lib.hid (floor_of (a := a) hb)
  go_enter Try.func66, Try.ntmps66
  go_wp2
  · go_ret
    exact ⟨ret_int (by rw [← HF.out, if_pos (by assumption)]), rfl⟩
  · go_ret
    exact ⟨ret_int (by rw [← HF.out, if_neg (by omega)]), rfl⟩

end Go.Proofs.Ytgiiaijlahjfnaa
