/-
  Which signed numbers fit into a width (the specification); the library's count of bits, below 2^23.
-/
import Derived.Test.YthgppflplcoemaaPar
import Derived.Deep.QuietTactic
import Derived.BigQuiet
namespace Go.Proofs.Ythgppflplcoemaa
open Go.RowKit

set_option maxHeartbeats 400000 in
theorem fitsSigned_any (x : Int) (v : Nat) (b : Bool) (w : World) (h0 : -4194303 ≤ x) (h1 : x ≤ 4194303) (hv : v ≤ 31) (hb : decide (wid x ≤ v) = b) :
    Calls Try.prog 35 #[.int .i64 x, .int .i64 (v : Int)] w fun e w' => e = .returned (.bool b) ∧ ∃ m, w' = w.drewN m := by
  cases v with
  | zero =>
    have hb2 : (x == 0) = b := by rw [← hb, Bool.eq_iff_iff]; simp only [beq_iff_eq, decide_eq_true_eq]; exact (wid_zero h0 h1).symm
    clear hb
    subst hb2
    go_enter Try.func35, Try.ntmps35
    go_wp2
    go_ret
    exact ⟨rfl, 0, rfl⟩
  | succ u =>
    have hp := pow30 u (by omega)
    have hp0 := hp.1
    have hp1 := hp.2
    have hr := fun W => inRange_any x (-(2 ^ u)) (2 ^ u - 1) b W (by
      rw [← hb]; unfold inB; rw [Bool.eq_iff_iff]; simp only [decide_eq_true_eq]; exact (wid_succ h0 h1 u (by omega)).symm)
    obtain ⟨t, ht⟩ : ∃ t, ((u + 1 : Nat) : Int) = t := ⟨_, rfl⟩
    have ht0 : (t == 0) = false := by simp; omega
    have ht1 : t - 1 = (u : Int) := by omega
    have ht2 : 1 ≤ t := by omega
    have ht3 : t ≤ 31 := by omega
    have hw0 : IntKind.i64.wrap (2 ^ u) = 2 ^ u := IntWalk.i64_in _ (by omega)
    have hw1 : IntKind.i64.wrap (-(2 ^ u)) = -(2 ^ u) := IntWalk.i64_in _ (by omega)
    have hw2 : IntKind.i64.wrap (-1 * 2 ^ u) = -(2 ^ u) := IntWalk.i64_in _ (by omega) |>.trans (by omega)
    have hu : u ≤ 30 := by omega
    have hs : (u : Int).toNat = u := by simp
    have hwu : IntKind.i64.wrap (u : Int) = (u : Int) := IntWalk.i64_in _ (by omega)
    have hq2 : IntKind.i64.wrap (2 ^ u - 1) = 2 ^ u - 1 := IntWalk.i64_in _ (by omega)
    have hu0 : (0 : Int) ≤ (u : Int) := by omega
    have hu1 : (u : Int) ≤ 64 := by omega
    rw [ht]
    clear hb hp ht
    go_enter Try.func35, Try.ntmps35
    go_wp2_with fail
    go_quiet ((go_at_call 30; exact Calls.quiet_of_same ((hr _).mono (fun _ _ h => ⟨h.1, h.2.symm⟩))))
    clear hr
    go_wp2
    go_ret
    exact ⟨rfl, _, rfl⟩

end Go.Proofs.Ythgppflplcoemaa
