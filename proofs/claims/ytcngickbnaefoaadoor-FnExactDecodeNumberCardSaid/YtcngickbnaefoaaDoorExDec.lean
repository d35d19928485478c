/-
  The walk of 'FnExactDecodeNumber': it returns true and writes nothing that was there. For all arguments.
-/
import Derived.Test.YtcngickbnaefoaaDoorDecB
import Derived.Test.YtcngickbnaefoaaDoorExEnc
import Derived.Deep.RegionHeld3
namespace Go.Proofs.YtcngickbnaefoaaDoor
open Go.RowKit

theorem dec_ex (xs : List Int) (a : Int) (len : Nat) (hl : xs.length = len) (hlen : len ≤ 1048576) : ∃ (n p : Int) (ok : Bool),
    Hid (∀ (ao : Option Addr) (cap : Nat) (w : World), Ints w ao len xs → len ≤ cap → (ao = none → cap = 0) → Calls Tryd.prog 14 #[.slice ao len cap, .int .i64 a] w fun e w' => e = .returned (.tuple #[.int .i64 n, .int .i64 p, .bool ok]) ∧ w.grownBy w' none) ∧
    Hid (∀ (ao : Option Addr) (cap : Nat) (w : World), Ints w ao len xs → len ≤ cap → (ao = none → cap = 0) → HasForms w → Calls Tryd.prog 12 #[.slice ao len cap, .int .i64 a] w fun e w' => e = .returned (.tuple #[.int .i64 n, .int .i64 p, .bool ok]) ∧ w.grownBy w' none) := by
  obtain ⟨o, hI, hS⟩ := dec_both xs len hl (by omega) a
  cases o with
  | none => exact ⟨0, 0, false, fun ao cap w hx hc _ => hS.out ao cap w hx hc, fun ao cap w hx hc _ hE => hI.out ao cap w hE hx hc⟩
  | some q => exact ⟨q.1, (q.2 : Int), true, fun ao cap w hx hc _ => hS.out ao cap w hx hc, fun ao cap w hx hc _ hE => hI.out ao cap w hE hx hc⟩

set_option maxRecDepth 100000 in
set_option maxHeartbeats 4000000 in
theorem FnExactDecodeNumber_walk (ao0 : Option Addr) (len0 cap0 : Nat) (a1 : Int) (w : World) (xs0 : List Int) (hx0 : Ints w ao0 len0 xs0) (_hlc0 : len0 ≤ cap0) (hmax0 : len0 ≤ 9223372036854775807) (hE : HasForms w) :
    Calls Tryd.prog 7 #[.slice ao0 len0 cap0, .int .i64 a1] w (Holds w) := by
  by_cases hlen0 : 1048576 < len0
  · clear hx0 hE
    go_enter Tryd.func7, Tryd.ntmps7
    go_wp2
    go_ret
    exact ⟨rfl, grown_refl _ _⟩
  have hlen0' : len0 ≤ 1048576 := by omega
  have hm0 : decide (1048576 < (len0 : Int)) = false := by simp; omega
  obtain ⟨n1, p1, v, HS, HI⟩ := dec_ex xs0 a1 len0 hx0.1 (by omega)
  have HE := Lib.hid hE
  clear hE
  have HX0 := Lib.hid hx0
  clear hx0 hmax0 hlen0
  go_enter Tryd.func7, Tryd.ntmps7
  have HM := Lib.hid (Mem.start w)
  go_wp2_with fail
  refine (toIntS_any xs0 ao0 len0 cap0 _ (HX0.out.grown HM.out.g) (by omega)).mono ?_
  rintro e w1 ⟨v1, rfl, ho1, hg1⟩
  obtain ⟨p1, c1, rfl, hlc1, hn1, hx1, _⟩ := ho1.reads
  have HN1 := Lib.hid hn1
  have HY1 := Lib.hid hx1
  have HM := Lib.hid (HM.out.grown hg1)
  clear ho1 hg1 hx1 hn1
  go_wp2_with fail
  refine (HS.out p1 c1 _ HY1.out hlc1 HN1.out).mono ?_
  rintro e w2 ⟨rfl, hg2⟩
  have HM := Lib.hid (HM.out.grown hg2)
  have HY1 := Lib.hid (HY1.out.grown hg2)
  clear hg2
  go_wp2_with fail
  refine (toIntS_any xs0 ao0 len0 cap0 _ (HX0.out.grown HM.out.g) (by omega)).mono ?_
  rintro e w3 ⟨v3, rfl, ho3, hg3⟩
  obtain ⟨L3, hs3, hm3⟩ := HM.out.own hg3 (Nat.le_refl _) ho3
  obtain ⟨p3, c3, rfl, hlc3, hn3, hx3, _⟩ := ho3.reads
  have HN3 := Lib.hid hn3
  have HY3 := Lib.hid hx3
  have HS3 := Lib.hid hs3
  have HM := Lib.hid hm3
  clear ho3 hg3 hs3 hm3 hx3 hn3
  go_wp2_with fail
  refine (HI.out p3 c3 _ HY3.out hlc3 HN3.out (HE.out.grown HM.out.g)).mono ?_
  rintro e w4 ⟨rfl, hg4⟩
  have HM := Lib.hid (HM.out.grown hg4)
  have HY3 := Lib.hid (HY3.out.grown hg4)
  clear hg4
  go_wp2_with fail
  refine (toIntS_any xs0 ao0 len0 cap0 _ (HX0.out.grown HM.out.g) (by omega)).mono ?_
  rintro e w5 ⟨v5, rfl, ho5, hg5⟩
  obtain ⟨p5, c5, rfl, _, _, hx5, _⟩ := ho5.reads
  have HM := Lib.hid (HM.out.grown hg5)
  have HY5 := Lib.hid hx5
  clear ho5 hg5 hx5
  go_wp2_with fail
  refine (eqIntS_any xs0 xs0 p3 p5 len0 c3 len0 c5 true _ (HS3.out.toInts HM.out (by intro p hp; simp [hp])) HY5.out (by omega) (by simp)).mono ?_
  rintro e w6 ⟨rfl, hg6⟩
  have HM := Lib.hid (HM.out.grown hg6)
  clear hg6
  go_wp2
  go_ret
  exact ⟨rfl, HM.out.g⟩

end Go.Proofs.YtcngickbnaefoaaDoor
