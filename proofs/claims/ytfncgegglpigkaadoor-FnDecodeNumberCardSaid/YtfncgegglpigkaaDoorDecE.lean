/-
  spec.equalInts.
-/
import Derived.Test.YtfncgegglpigkaaDoorList
namespace Go.Proofs.YtfncgegglpigkaaDoor
open Go.RowKit

set_option maxHeartbeats 400000 in
theorem sEqualInts_any (xs ys : List Int) (ao bo : Option Addr) (len cap len' cap' : Nat) (v : Bool) (w : World) (hx : Ints w ao len xs) (hy : Ints w bo len' ys) (hlen : len ≤ 4611686018427387904) (hv : (xs == ys) = v) :
    Calls Tryd.prog 26 #[.slice ao len cap, .slice bo len' cap'] w fun e w' => e = .returned (.bool v) ∧ w.grownBy w' none := by
  subst hv
  by_cases hll : len = len'
  · subst hll
    obtain ⟨hl, hx⟩ := hx
    obtain ⟨hl', hy⟩ := hy
    by_cases h0 : len = 0
    · obtain rfl : xs = [] := List.length_eq_zero_iff.1 (hl.trans h0)
      obtain rfl : ys = [] := List.length_eq_zero_iff.1 (hl'.trans h0)
      subst h0
      clear hl hl' hx hy
      rw [show (([] : List Int) == []) = true from rfl]
      go_enter Tryd.func26, Tryd.ntmps26
      go_wp2
      refine wp_loop_rounds 1 ?_
      rw [rounds_succ]
      go_wp2
      go_ret
      exact ⟨rfl, grown_refl _ _⟩
    obtain ⟨b, off, rfl, hc⟩ := hx.resolve_left (by intro e; subst e; simp at hl; omega)
    obtain ⟨b', off', rfl, hc'⟩ := hy.resolve_left (by intro e; subst e; simp at hl'; omega)
    have HL := Lib.hid hl
    have HL' := Lib.hid hl'
    have HC := Lib.hid hc
    have HC' := Lib.hid hc'
    clear hx hy hl hl' hc hc' h0
    go_enter Tryd.func26, Tryd.ntmps26
    go_wp2
    go_loopw [5] (fun i wr => ∃ k n : Nat, k ≤ len ∧ i = .int .i64 k ∧ wr = w.drewN n ∧ Hid (xs.take k = ys.take k)) (fun i _ => len - (intOf i).toNat)
    case atStart => exact ⟨0, 0, Nat.zero_le _, rfl, rfl, rfl⟩
    case round =>
      obtain ⟨k, n, hk, rfl, rfl, ha⟩ := hrel
      by_cases hlt : k < len
      · obtain ⟨x, hxk⟩ : ∃ x, xs[k]? = some x := ⟨_, List.getElem?_eq_getElem (by rw [HL.out]; exact hlt)⟩
        obtain ⟨y, hyk⟩ : ∃ y, ys[k]? = some y := ⟨_, List.getElem?_eq_getElem (by rw [HL'.out]; exact hlt)⟩
        have hcx := HC.out k x hxk
        have hcy := HC'.out k y hyk
        have HX := Lib.hid hxk
        have HY := Lib.hid hyk
        clear hxk hyk
        by_cases hxy : x = y
        · have HT : Hid (xs.take (k + 1) = ys.take (k + 1)) := by
            show xs.take (k + 1) = ys.take (k + 1)
            rw [List.take_add_one, List.take_add_one, HX.out, HY.out, ha.out, hxy]
          subst hxy
          go_wp2
          go_quiet (fail)
          go_wp2
          go_roundw
          case rel => exact ⟨k + 1, n + nq, by omega, by go_num, rfl, HT⟩
          case measure => simp [intOf]; omega
        · have hne : (x != y) = true := by simpa using hxy
          have HF : Hid ((xs == ys) = false) := by
            show (xs == ys) = false
            rw [beq_eq_false_iff_ne]
            intro e; subst e; exact hxy (by have := HX.out.symm.trans HY.out; injection this)
          clear hxy
          go_wp2
          go_quiet (fail)
          go_wp2
          go_ret
          exact ⟨ret_bool HF.out.symm, grown_trans (grown_drewN _ _ _) (grown_drewN _ _ _)⟩
      · have HF : Hid ((xs == ys) = true) := by
          show (xs == ys) = true
          have := ha.out
          rw [List.take_of_length_le (by rw [HL.out]; omega), List.take_of_length_le (by rw [HL'.out]; omega)] at this
          simpa using this
        go_wp2
        go_ret
        exact ⟨ret_bool HF.out.symm, grown_drewN _ _ _⟩
  · have hne : ((len : Int) != len') = true := by simpa using fun e => hll (by omega)
    have hv : (xs == ys) = false := by
      rw [beq_eq_false_iff_ne]; intro e; subst e; exact hll (hx.1.symm.trans hy.1)
    rw [hv]
    clear hx hy hv hll
    go_enter Tryd.func26, Tryd.ntmps26
    go_wp2
    go_ret
    exact ⟨rfl, grown_refl _ _⟩


end Go.Proofs.YtfncgegglpigkaaDoor
