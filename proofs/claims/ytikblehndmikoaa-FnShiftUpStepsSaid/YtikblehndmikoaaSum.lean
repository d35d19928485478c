/-
  Sums of lists, and the laws' comparison of predictors. The numbers of a sum are at most 100000 in size, and at most 1000 many.
-/
import Derived.Test.YtikblehndmikoaaLin
import Derived.Test.YtikblehndmikoaaQMath
namespace Go.Proofs.Ytikblehndmikoaa
open Go.RowKit

theorem sum_range {B : Int} (hB : 0 ≤ B) (xs : List Int) (h : allB xs (-B) B = true) : -(B * (xs.length : Int)) ≤ xs.sum ∧ xs.sum ≤ B * (xs.length : Int) := by
  induction xs with
  | nil => simp
  | cons x xs ih =>
    have h1 : inB x (-B) B = true ∧ allB xs (-B) B = true := by simpa [allB] using h
    have hx : -B ≤ x ∧ x ≤ B := by simpa [inB] using h1.1
    have := ih h1.2
    rw [List.sum_cons, List.length_cons, Int.natCast_succ, Int.mul_add, Int.mul_one]
    omega
theorem allB_prefix {xs : List Int} {lo hi : Int} (h : allB xs lo hi = true) (k : Nat) : allB (xs.take k) lo hi = true := by
  unfold allB at *
  rw [List.all_eq_true] at *
  exact fun x hx => h x (List.mem_of_mem_take hx)
theorem allB_mono {xs : List Int} {lo hi lo' hi' : Int} (h : allB xs lo hi = true) (h1 : lo' ≤ lo) (h2 : hi ≤ hi') : allB xs lo' hi' = true := by
  unfold allB at *
  rw [List.all_eq_true] at *
  intro x hx
  have := h x hx
  simp [inB] at *
  omega
theorem sum_take {xs : List Int} {k : Nat} {x : Int} (h : xs[k]? = some x) : (xs.take (k + 1)).sum = (xs.take k).sum + x := by
  rw [List.take_add_one, h]; simp

set_option maxHeartbeats 400000 in
theorem sum_any (xs : List Int) (ao : Option Addr) (len cap : Nat) (z : Int) (w : World) (hx : Ints w ao len xs) (hlen : len ≤ 1000) (hb : allB xs (-100000) 100000 = true) (hz : xs.sum = z) :
    Calls Try.prog 14 #[.slice ao len cap] w fun e w' => e = .returned (.int .i64 z) ∧ w = w' := by
  subst hz
  obtain ⟨hl, hx | ⟨b, off, rfl, hc⟩⟩ := hx
  · subst hx
    obtain rfl : len = 0 := by simpa using hl.symm
    clear hl hb
    go_enter Try.func14, Try.ntmps14
    go_wp2
    refine wp_loop_rounds 1 ?_
    rw [rounds_succ]
    go_wp2
    go_ret
    exact ⟨rfl, rfl⟩
  have HL := Lib.hid hl
  have HC := Lib.hid hc
  have HB := Lib.hid hb
  clear hl hc hb
  go_enter Try.func14, Try.ntmps14
  go_wp2
  go_loop [3, 4] (fun n i => ∃ (k : Nat) (s : Int), k ≤ len ∧ i = .int .i64 k ∧ n = .int .i64 s ∧ Hid ((xs.take k).sum = s)) (fun _ i => len - (intOf i).toNat)
  case atStart => exact ⟨0, 0, Nat.zero_le _, rfl, rfl, by show _ = _; simp⟩
  case round =>
    obtain ⟨k, s, hk, rfl, rfl, hs⟩ := hrel
    by_cases hlt : k < len
    · obtain ⟨x, hxk⟩ : ∃ x, xs[k]? = some x := ⟨_, List.getElem?_eq_getElem (by rw [HL.out]; exact hlt)⟩
      have hcx := HC.out k x hxk
      have hxr := allB_mem HB.out hxk
      have hx0 := hxr.1
      have hx1 := hxr.2
      have hr := sum_range (by omega) (xs.take k) (allB_prefix HB.out k)
      rw [hs.out, List.length_take] at hr
      have hs0 : -100000000 ≤ s := by have := Nat.min_le_left k xs.length; omega
      have hs1 : s ≤ 100000000 := by have := Nat.min_le_left k xs.length; omega
      have HS : Hid ((xs.take (k + 1)).sum = s + x) := by show _ = _; rw [sum_take hxk, hs.out]
      clear hxk hxr hr
      go_wp2
      go_round
      case rel => exact ⟨k + 1, s + x, by omega, by go_num, rfl, HS⟩
      case measure => simp [intOf]; omega
    · have HF : Hid (xs.sum = s) := by show _ = _; have := hs.out; rwa [List.take_of_length_le (by rw [HL.out]; omega)] at this
      go_wp2
      go_ret
      exact ⟨ret_int HF.out.symm, rfl⟩

end Go.Proofs.Ytikblehndmikoaa
