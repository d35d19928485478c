/-
  Peaks in both texts. For all channels that can be read.
-/
import Derived.Test.YtncbgofcimghnaaVAuI
import Derived.Test.YtncbgofcimghnaaLvM
namespace Go.Proofs.Ytncbgofcimghnaa
open Go.RowKit

theorem iAbs_any (x : Int) (w : World) (h0 : -9000000000000000000 ≤ x) (h1 : x ≤ 9000000000000000000) :
    Calls Try.prog 60 #[.int .i64 x] w fun e w' => e = .returned (.int .i64 (ab x)) ∧ w = w' := by
  by_cases h : x < -x
  · rw [show ab x = -x by unfold ab; rw [if_pos (by omega)]]
    have hd : decide (x < -x) = true := by simpa using h
    go_enter Try.func60, Try.ntmps60
    go_wp2
    go_ret
    exact ⟨rfl, rfl⟩
  · rw [show ab x = x by unfold ab; split <;> omega]
    have hd : decide (x < -x) = false := by simpa using h
    go_enter Try.func60, Try.ntmps60
    go_wp2
    go_ret
    exact ⟨rfl, rfl⟩

/-- What PeakOf says. -/
def pkV (r d : Int) (xss : List (List Int)) : Int := if vAu r d xss = true then pkM 0 xss else -1

end Go.Proofs.Ytncbgofcimghnaa
