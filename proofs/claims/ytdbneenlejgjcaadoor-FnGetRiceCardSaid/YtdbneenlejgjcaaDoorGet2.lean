/-
  GetBits of the specification, and what the reader says of a bad width.
-/
import Derived.Test.YtdbneenlejgjcaaDoorGet
namespace Go.Proofs.YtdbneenlejgjcaaDoor
open Go.RowKit

/-! The specification. -/
def GotNB (n : Int) (ok : Bool) (w : World) (e : Ending) (w' : World) : Prop := e = .returned (.tuple #[.int .i64 n, .bool ok]) ∧ w.grownBy w' none

set_option maxRecDepth 100000 in
set_option maxHeartbeats 1000000 in
theorem has_any (ao : Option Addr) (len cap m : Nat) (a : Int) (wd : Nat) (b : Bool) (w : World) (hb : m ≤ 16384) (hwd : wd ≤ 32) (hv : (inB a 0 (m : Int) && decide ((wd : Int) ≤ (m : Int) - a)) = b) :
    Calls Tryd.prog 76 #[.agg #[.slice ao len cap, .int .i64 (m : Int)], .int .i64 a, .int .i64 (wd : Int)] w fun e w' => e = .returned (.bool b) ∧ w.grownBy w' none := by
  have HG := Lib.hid (grown_alloc w (.cells #[.slice ao len cap, .int .i64 (m : Int)] 28) none)
  cases h1 : inB a 0 (m : Int) with
  | false =>
    rw [h1] at hv
    simp only [Bool.false_and] at hv
    subst hv
    have HH := Lib.hid h1
    clear h1
    go_enter Tryd.func76, Tryd.ntmps76
    go_wp2_with fail
    refine (inRange_any a 0 (m : Int) false _ HH.out).mono ?_
    rintro e w' ⟨rfl, rfl⟩
    go_wp2
    go_ret
    exact ⟨rfl, HG.out⟩
  | true =>
    rw [h1] at hv
    simp only [Bool.true_and] at hv
    have h2 : 0 ≤ a ∧ a ≤ (m : Int) := by simpa [inB] using h1
    have h3 := h2.1
    have h4 := h2.2
    have HH := Lib.hid h1
    clear h1 h2
    go_enter Tryd.func76, Tryd.ntmps76
    go_wp2_with fail
    refine (inRange_any a 0 (m : Int) true _ HH.out).mono ?_
    rintro e w' ⟨rfl, rfl⟩
    go_wp2
    go_ret
    exact ⟨rfl, HG.out⟩

/-! The program. -/
theorem get_width (z : Int) (w : World) (p : Value) (hE : ErrAt w 0) (hz : z < 0 ∨ 32 < z) :
    Calls Tryd.prog 57 #[p, .int .i64 z] w fun e w' => (∃ t v, e = .returned (.tuple #[.int .i64 0, .iface t v])) ∧ w.grownBy w' none := by
  obtain ⟨t, v, hc⟩ := hE
  by_cases h1 : z < 0
  · have d1 : decide (z < 0) = true := by simpa using h1
    clear hz
    go_enter Tryd.func57, Tryd.ntmps57
    go_wp2
    try go_quiet (fail)
    go_wp2
    go_ret2
    exact ⟨⟨t, v, rfl⟩, by first | exact grown_refl _ _ | exact grown_drewN _ _ _⟩
  have d1 : decide (z < 0) = false := by simpa using h1
  have d2 : decide (32 < z) = true := by simp; omega
  clear hz
  go_enter Tryd.func57, Tryd.ntmps57
  go_wp2
  try go_quiet (fail)
  go_wp2
  go_ret2
  exact ⟨⟨t, v, rfl⟩, by first | exact grown_refl _ _ | exact grown_drewN _ _ _⟩

end Go.Proofs.YtdbneenlejgjcaaDoor
