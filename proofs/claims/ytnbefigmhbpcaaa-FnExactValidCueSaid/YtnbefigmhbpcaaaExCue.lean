/-
  The walk of 'FnExactValidCue': it returns true and writes nothing that was there. For all arguments.
-/
import Derived.Test.YtnbefigmhbpcaaaCue
import Derived.Test.YtnbefigmhbpcaaaMem
import Derived.Deep.RegionHeld3
namespace Go.Proofs.Ytnbefigmhbpcaaa
open Go.RowKit

theorem vc_both (xs : List Int) (len : Nat) (t : Int) (hlen : len ≤ 1048576) : ∃ z : Bool, Hid (∀ (ao : Option Addr) (cap : Nat) (w : World), Ints w ao len xs → len ≤ cap → (ao = none → cap = 0) → Calls Try.prog 11 #[.slice ao len cap, .int .i64 t] w fun e w' => e = .returned (.bool z) ∧ w.grownBy w' none) ∧ Hid (∀ (ao : Option Addr) (cap : Nat) (w : World), Ints w ao len xs → len ≤ cap → (ao = none → cap = 0) → Calls Try.prog 10 #[.slice ao len cap, .int .i64 t] w fun e w' => e = .returned (.bool z) ∧ w.grownBy w' none) := by
  obtain ⟨v, hv⟩ := vc_there xs t
  exact ⟨v, fun ao cap w hx _ _ => sVCV_any xs t ao len cap w v hx (by omega) hv, fun ao cap w hx hlc _ => iVC_any xs t ao len cap w v hx (by omega) hlc hv⟩

set_option maxRecDepth 100000 in
set_option maxHeartbeats 4000000 in
theorem FnExactValidCue_walk (ao0 : Option Addr) (len0 cap0 : Nat) (a1 : Int) (w : World) (xs0 : List Int) (hx0 : Ints w ao0 len0 xs0) (_hlc0 : len0 ≤ cap0) (hmax0 : len0 ≤ 9223372036854775807) :
    Calls Try.prog 6 #[.slice ao0 len0 cap0, .int .i64 a1] w (Holds w) := by
  by_cases hlen0 : 1048576 < len0
  · clear hx0
    go_enter Try.func6, Try.ntmps6
    go_wp2
    go_ret
    exact ⟨rfl, grown_refl _ _⟩
  have hlen0' : len0 ≤ 1048576 := by omega
  have hm0 : decide (1048576 < (len0 : Int)) = false := by simp; omega
  obtain ⟨z, HS, HI⟩ := vc_both xs0 len0 a1 (by omega)
  have HX0 := Lib.hid hx0
  clear hx0 hmax0 hlen0
  go_enter Try.func6, Try.ntmps6
  have HM := Lib.hid (Mem.start w)
  go_wp2_with fail
  refine (toIntS_any xs0 ao0 len0 cap0 _ (HX0.out.grown HM.out.g) (by omega)).mono ?_
  rintro e w1 ⟨v1, rfl, ho1, hg1⟩
  obtain ⟨p1, c1, rfl, hlc1, hn1, hx1, _⟩ := ho1.reads
  have HN1 := Lib.hid hn1
  have HY1 := Lib.hid hx1
  have HM := Lib.hid (HM.out.grown hg1)
  clear ho1 hg1 hx1 hn1
  go_wp2_with fail
  refine (HS.out p1 c1 _ HY1.out hlc1 HN1.out).mono ?_
  rintro e w2 ⟨rfl, hg2⟩
  have HM := Lib.hid (HM.out.grown hg2)
  have HY1 := Lib.hid (HY1.out.grown hg2)
  clear hg2
  go_wp2_with fail
  refine (toIntS_any xs0 ao0 len0 cap0 _ (HX0.out.grown HM.out.g) (by omega)).mono ?_
  rintro e w3 ⟨v3, rfl, ho3, hg3⟩
  obtain ⟨L3, hs3, hm3⟩ := HM.out.own hg3 (Nat.le_refl _) ho3
  obtain ⟨p3, c3, rfl, hlc3, hn3, hx3, _⟩ := ho3.reads
  have HN3 := Lib.hid hn3
  have HY3 := Lib.hid hx3
  have HS3 := Lib.hid hs3
  have HM := Lib.hid hm3
  clear ho3 hg3 hs3 hm3 hx3 hn3
  go_wp2_with fail
  refine (HI.out p3 c3 _ HY3.out hlc3 HN3.out).mono ?_
  rintro e w4 ⟨rfl, hg4⟩
  have HM := Lib.hid (HM.out.grown hg4)
  have HY3 := Lib.hid (HY3.out.grown hg4)
  clear hg4
  go_wp2_with fail
  refine (toIntS_any xs0 ao0 len0 cap0 _ (HX0.out.grown HM.out.g) (by omega)).mono ?_
  rintro e w5 ⟨v5, rfl, ho5, hg5⟩
  obtain ⟨p5, c5, rfl, _, _, hx5, _⟩ := ho5.reads
  have HM := Lib.hid (HM.out.grown hg5)
  have HY5 := Lib.hid hx5
  clear ho5 hg5 hx5
  go_wp2_with fail
  refine (eqIntS_any xs0 xs0 p3 p5 len0 c3 len0 c5 true _ (HS3.out.toInts HM.out (by intro p hp; simp [hp])) HY5.out (by omega) (by simp)).mono ?_
  rintro e w6 ⟨rfl, hg6⟩
  have HM := Lib.hid (HM.out.grown hg6)
  clear hg6
  go_wp2
  go_ret
  exact ⟨rfl, HM.out.g⟩

end Go.Proofs.Ytnbefigmhbpcaaa
