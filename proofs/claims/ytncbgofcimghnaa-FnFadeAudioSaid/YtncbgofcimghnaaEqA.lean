/-
  The laws' own comparison of audio, where both are equal. No condition but sizes.
-/
import Derived.Test.YtncbgofcimghnaaMatAudio
namespace Go.Proofs.Ytncbgofcimghnaa
open Go.RowKit

set_option maxHeartbeats 400000 in
theorem equalInts_q (xs : List Int) (ao bo : Option Addr) (len cap cap' : Nat) (w : World) (hx : Ints w ao len xs) (hy : Ints w bo len xs) (hlen : len ≤ 4611686018427387904) :
    Calls Try.prog 69 #[.slice ao len cap, .slice bo len cap'] w fun e w' => e = .returned (.bool true) ∧ ∃ m, w' = w.drewN m := by
  obtain ⟨hl, hx⟩ := hx
  obtain ⟨_, hy⟩ := hy
  by_cases h0 : len = 0
  · subst h0
    clear hl hx hy
    go_enter Try.func69, Try.ntmps69
    go_wp2
    refine wp_loop_rounds 1 ?_
    rw [rounds_succ]
    go_wp2
    go_ret
    exact ⟨rfl, 0, rfl⟩
  obtain ⟨b, off, rfl, hc⟩ := hx.resolve_left (by intro e; subst e; simp at hl; omega)
  obtain ⟨b', off', rfl, hc'⟩ := hy.resolve_left (by intro e; subst e; simp at hl; omega)
  have HL := Lib.hid hl
  have HC := Lib.hid hc
  have HC' := Lib.hid hc'
  clear hx hy hl hc hc' h0
  go_enter Try.func69, Try.ntmps69
  go_wp2
  go_loopw [5] (fun i wr => ∃ k n : Nat, k ≤ len ∧ i = .int .i64 k ∧ wr = w.drewN n) (fun i _ => len - (intOf i).toNat)
  case atStart => exact ⟨0, 0, Nat.zero_le _, rfl, rfl⟩
  case round =>
    obtain ⟨k, n, hk, rfl, rfl⟩ := hrel
    by_cases hlt : k < len
    · obtain ⟨x, hxk⟩ : ∃ x, xs[k]? = some x := ⟨_, List.getElem?_eq_getElem (by rw [HL.out]; exact hlt)⟩
      have hcx := HC.out k x hxk
      have hcy := HC'.out k x hxk
      clear hxk
      go_wp2
      go_quiet (fail)
      go_wp2
      go_roundw
      case rel => exact ⟨k + 1, n + nq, by omega, by go_num, rfl⟩
      case measure => simp [intOf]; omega
    · go_wp2
      go_ret
      exact ⟨rfl, n, rfl⟩

set_option maxHeartbeats 1000000 in
theorem equalLists_same (xss : List (List Int)) (ao bo : Option Addr) (len cap cap' : Nat) (w : World) (hx : Mat w ao len xss) (hy : Mat w bo len xss) (hs : szL xss ≤ 1048576) :
    Calls Try.prog 45 #[.slice ao len cap, .slice bo len cap'] w fun e w' => e = .returned (.bool true) ∧ ∃ m, w' = w.drewN m := by
  have hl := hx.1
  have hlen : len ≤ 1048576 := by unfold szL at hs; omega
  have HX := Lib.hid hx
  have HY := Lib.hid hy
  have HL := Lib.hid hl
  have HZ := Lib.hid hs
  clear hx hy hl hs
  go_enter Try.func45, Try.ntmps45
  go_wp2
  go_loopw [5] (fun i wr => ∃ k : Nat, k ≤ len ∧ i = .int .i64 k ∧ Hid (∃ n, wr = w.drewN n)) (fun i _ => len - (intOf i).toNat)
  case atStart => exact ⟨0, Nat.zero_le _, rfl, 0, rfl⟩
  case round =>
    obtain ⟨k, hk, rfl, HD⟩ := hrel
    have hgd : w.grownBy wr none := by obtain ⟨n, e⟩ := HD.out; rw [e]; exact grown_drewN _ _ _
    by_cases hlt : k < len
    · obtain ⟨xs, hxk⟩ : ∃ xs, xss[k]? = some xs := ⟨_, List.getElem?_eq_getElem (by rw [HL.out]; exact hlt)⟩
      obtain ⟨b, off, rfl, hc⟩ := HX.out.2.resolve_left (by intro e; subst e; simp at hxk)
      obtain ⟨b', off', rfl, hc'⟩ := HY.out.2.resolve_left (by intro e; subst e; simp at hxk)
      obtain ⟨u, hu, a, c, rfl, hi, hlc, hcm, _⟩ := hc k xs hxk
      obtain ⟨u', hu', a', c', rfl, hi', hlc', hcm', _⟩ := hc' k xs hxk
      have hrl : xs.length ≤ 1048576 := Nat.le_trans (row_le hxk) HZ.out
      obtain ⟨n, hn⟩ : ∃ n, xs.length = n := ⟨_, rfl⟩
      rw [hn] at hu hu' hi hi' hrl
      have hu1 := hgd.cell hu (by simp)
      have hu1' := hgd.cell hu' (by simp)
      have ke := fun j => equalInts_q xs a a' n c c' (wr.drewN j) (hi.grown (grown_trans hgd (grown_drewN _ _ _))) (hi'.grown (grown_trans hgd (grown_drewN _ _ _))) (by omega)
      clear hc hc' hxk hn hi hi' hlc hlc' hcm hcm' hgd hu hu'
      go_wp2_with fail
      go_quiet ((go_at_call 69; exact Calls.quiet_of (ke _)))
      clear ke
      have HD2 : Hid (∃ n, wr.drewN nq = w.drewN n) := by obtain ⟨m, e⟩ := HD.out; exact ⟨m + nq, by rw [e, World.drewN_drewN]⟩
      go_wp2
      go_roundw
      case rel => exact ⟨k + 1, by omega, by go_num, HD2⟩
      case measure => simp [intOf]; omega
    · obtain rfl : k = len := by omega
      go_wp2
      go_ret
      exact ⟨rfl, HD.out⟩

set_option maxHeartbeats 1000000 in
theorem equalAudio_same (xss : List (List Int)) (ao bo : Option Addr) (len cap cap' : Nat) (p q : Int) (w : World) (hx : Mat w ao len xss) (hy : Mat w bo len xss) (hs : szL xss ≤ 1048576) :
    Calls Try.prog 18 #[.agg #[.int .i64 p, .int .i64 q, .slice ao len cap], .agg #[.int .i64 p, .int .i64 q, .slice bo len cap']] w fun e w' => e = .returned (.bool true) ∧ w.grownBy w' none := by
  have k1 := fun j => equalLists_same xss ao bo len cap cap' (((w.alloc (.cells #[.int .i64 p, .int .i64 q, .slice ao len cap] 25)).alloc (.cells #[.int .i64 p, .int .i64 q, .slice bo len cap'] 25)).drewN j)
    (hx.grown (grown_trans (grown_alloc _ _ _) (grown_trans (grown_alloc _ _ _) (grown_drewN _ _ _)))) (hy.grown (grown_trans (grown_alloc _ _ _) (grown_trans (grown_alloc _ _ _) (grown_drewN _ _ _)))) hs
  clear hx hy hs
  go_enter Try.func18, Try.ntmps18
  go_wp2_with fail
  have k10 := k1 0
  refine k10.mono ?_
  rintro e w1 ⟨rfl, m, rfl⟩
  clear k1 k10
  go_wp2
  go_ret
  exact ⟨rfl, grown_trans (grown_trans (grown_alloc _ _ _) (grown_alloc _ _ _)) (grown_drewN _ _ _)⟩

end Go.Proofs.Ytncbgofcimghnaa
