/-
  Valid residuals, both texts. For all lists.
-/
import Derived.Test.YtgiiaijlahjfnaaPar
import Derived.Test.YtgiiaijlahjfnaaILin
namespace Go.Proofs.Ytgiiaijlahjfnaa
open Go.RowKit

set_option maxHeartbeats 400000 in
theorem sVR_any (xs : List Int) (ao : Option Addr) (len cap : Nat) (w : World) (v : Bool) (hx : Ints w ao len xs) (hmax : len ≤ 4611686018427387904) (hv : vR xs = v) :
    Calls Try.prog 40 #[.slice ao len cap] w fun e w' => e = .returned (.bool v) ∧ w = w' := by
  subst hv
  have hl := hx.1
  by_cases h : len ≤ 64
  · have k := allIn_any xs (-4194303) 4194303 ao len cap w hx (by omega)
    have hv : vR xs = allB xs (-4194303) 4194303 := by unfold vR; simp [hl, h]
    rw [hv]
    have hd : decide ((len : Int) ≤ 64) = true := by simp; omega
    clear hv hl hx h
    generalize allB xs (-4194303) 4194303 = b at *
    go_enter Try.func40, Try.ntmps40
    go_wp2_with fail
    refine k.mono ?_
    rintro e w' ⟨rfl, rfl⟩
    clear k
    go_wp2
    go_ret
    exact ⟨rfl, rfl⟩
  · have hv : vR xs = false := by unfold vR; simp [hl, h]
    rw [hv]
    have hd : decide ((len : Int) ≤ 64) = false := by simp; omega
    clear hv hl hx h
    go_enter Try.func40, Try.ntmps40
    go_wp2
    go_ret
    exact ⟨rfl, rfl⟩

set_option maxHeartbeats 400000 in
theorem iVR_any (xs : List Int) (ao : Option Addr) (len cap : Nat) (w : World) (v : Bool) (hx : Ints w ao len xs) (hmax : len ≤ 4611686018427387904) (hv : vR xs = v) :
    Calls Try.prog 56 #[.slice ao len cap] w fun e w' => e = .returned (.bool v) ∧ w = w' := by
  subst hv
  have hl := hx.1
  by_cases h : len ≤ 64
  · have k := iAllIn_any xs (-4194303) 4194303 ao len cap w _ hx (by omega) rfl
    have hv : vR xs = allB xs (-4194303) 4194303 := by unfold vR; simp [hl, h]
    rw [hv]
    have hd : decide ((len : Int) ≤ 64) = true := by simp; omega
    clear hv hl hx h
    generalize allB xs (-4194303) 4194303 = b at *
    go_enter Try.func56, Try.ntmps56
    go_wp2_with fail
    refine k.mono ?_
    rintro e w' ⟨rfl, rfl⟩
    clear k
    go_wp2
    go_ret
    exact ⟨rfl, rfl⟩
  · have hv : vR xs = false := by unfold vR; simp [hl, h]
    rw [hv]
    have hd : decide ((len : Int) ≤ 64) = false := by simp; omega
    clear hv hl hx h
    go_enter Try.func56, Try.ntmps56
    go_wp2
    go_ret
    exact ⟨rfl, rfl⟩

end Go.Proofs.Ytgiiaijlahjfnaa
