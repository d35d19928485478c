/-
  The walks of the exact laws on lists: each returns true and writes nothing that was there. For every list.
-/
import Derived.Test.YtdhfjaoaekdfbaaOwn
import Derived.Test.YtdhfjaoaekdfbaaCrc
import Derived.Test.YtdhfjaoaekdfbaaZigLaws
namespace Go.Proofs.Ytdhfjaoaekdfbaa
open Go.RowKit

set_option maxHeartbeats 1000000 in
theorem FnExactCrc8_walk (ao : Option Addr) (len cap : Nat) (w : World) (xs : List Int) (hx : Ints w ao len xs) (_hlc : len ≤ cap) (hmax : len ≤ 9223372036854775807) :
    Calls Try.prog 17 #[.slice ao len cap] w (Holds w) := by
  by_cases hlen : 1048576 < len
  · clear hx
    go_enter Try.func17, Try.ntmps17
    go_wp2
    go_ret
    exact ⟨rfl, grown_refl _ _⟩
  have hlen' : len ≤ 1048576 := by omega
  have HX := Lib.hid hx
  clear hx hmax hlen
  go_enter Try.func17, Try.ntmps17
  go_wp2_with fail
  refine (toIntS_any xs ao len cap _ HX.out (by omega)).mono ?_
  rintro e w1 ⟨v1, rfl, ho1, hg1⟩
  obtain ⟨a1, c1, rfl, _, _, hx1, _⟩ := ho1.reads
  have HG1 := Lib.hid hg1
  have HX1 := Lib.hid hx1
  clear ho1 hg1 hx1
  go_wp2_with fail
  refine (sCrc8 xs a1 len c1 _ _ HX1.out (by omega) rfl).mono ?_
  rintro e w1' ⟨rfl, rfl⟩
  go_wp2_with fail
  refine (toIntS_any xs ao len cap _ (HX.out.grown HG1.out) (by omega)).mono ?_
  rintro e w2 ⟨v2, rfl, ho2, hg2⟩
  obtain ⟨a2, c2, rfl, _, _, hx2, _⟩ := ho2.reads
  have HG2 := Lib.hid (grown_trans HG1.out hg2)
  have HX2 := Lib.hid hx2
  clear ho2 hg2 hx2
  go_wp2_with fail
  refine (iCrc8 xs a2 len c2 _ _ HX2.out (by omega) rfl).mono ?_
  rintro e w3 ⟨rfl, hg3⟩
  have HG3 := Lib.hid (grown_trans HG2.out hg3)
  have HX3 := Lib.hid (HX2.out.grown hg3)
  clear hg3
  generalize Ck 8 263 xs = z at *
  go_wp2_with fail
  refine (toIntS_any xs ao len cap _ (HX.out.grown HG3.out) (by omega)).mono ?_
  rintro e w4 ⟨v4, rfl, ho4, hg4⟩
  obtain ⟨a4, c4, rfl, _, _, hx4, _⟩ := ho4.reads
  have HG4 := Lib.hid (grown_trans HG3.out hg4)
  have HX4 := Lib.hid hx4
  have HX5 := Lib.hid (HX3.out.grown hg4)
  clear ho4 hg4 hx4
  go_wp2_with fail
  refine (eqIntS_any xs xs a2 a4 len c2 len c4 true _ HX5.out HX4.out (by omega) (by simp)).mono ?_
  rintro e w5 ⟨rfl, hg5⟩
  have HG5 := Lib.hid (grown_trans HG4.out hg5)
  clear hg5
  go_wp2
  go_ret
  exact ⟨rfl, HG5.out⟩

set_option maxHeartbeats 1000000 in
theorem FnExactCrc16_walk (ao : Option Addr) (len cap : Nat) (w : World) (xs : List Int) (hx : Ints w ao len xs) (_hlc : len ≤ cap) (hmax : len ≤ 9223372036854775807) :
    Calls Try.prog 18 #[.slice ao len cap] w (Holds w) := by
  by_cases hlen : 1048576 < len
  · clear hx
    go_enter Try.func18, Try.ntmps18
    go_wp2
    go_ret
    exact ⟨rfl, grown_refl _ _⟩
  have hlen' : len ≤ 1048576 := by omega
  have HX := Lib.hid hx
  clear hx hmax hlen
  go_enter Try.func18, Try.ntmps18
  go_wp2_with fail
  refine (toIntS_any xs ao len cap _ HX.out (by omega)).mono ?_
  rintro e w1 ⟨v1, rfl, ho1, hg1⟩
  obtain ⟨a1, c1, rfl, _, _, hx1, _⟩ := ho1.reads
  have HG1 := Lib.hid hg1
  have HX1 := Lib.hid hx1
  clear ho1 hg1 hx1
  go_wp2_with fail
  refine (sCrc16 xs a1 len c1 _ _ HX1.out (by omega) rfl).mono ?_
  rintro e w1' ⟨rfl, rfl⟩
  go_wp2_with fail
  refine (toIntS_any xs ao len cap _ (HX.out.grown HG1.out) (by omega)).mono ?_
  rintro e w2 ⟨v2, rfl, ho2, hg2⟩
  obtain ⟨a2, c2, rfl, _, _, hx2, _⟩ := ho2.reads
  have HG2 := Lib.hid (grown_trans HG1.out hg2)
  have HX2 := Lib.hid hx2
  clear ho2 hg2 hx2
  go_wp2_with fail
  refine (iCrc16 xs a2 len c2 _ _ HX2.out (by omega) rfl).mono ?_
  rintro e w3 ⟨rfl, hg3⟩
  have HG3 := Lib.hid (grown_trans HG2.out hg3)
  have HX3 := Lib.hid (HX2.out.grown hg3)
  clear hg3
  generalize Ck 16 98309 xs = z at *
  go_wp2_with fail
  refine (toIntS_any xs ao len cap _ (HX.out.grown HG3.out) (by omega)).mono ?_
  rintro e w4 ⟨v4, rfl, ho4, hg4⟩
  obtain ⟨a4, c4, rfl, _, _, hx4, _⟩ := ho4.reads
  have HG4 := Lib.hid (grown_trans HG3.out hg4)
  have HX4 := Lib.hid hx4
  have HX5 := Lib.hid (HX3.out.grown hg4)
  clear ho4 hg4 hx4
  go_wp2_with fail
  refine (eqIntS_any xs xs a2 a4 len c2 len c4 true _ HX5.out HX4.out (by omega) (by simp)).mono ?_
  rintro e w5 ⟨rfl, hg5⟩
  have HG5 := Lib.hid (grown_trans HG4.out hg5)
  clear hg5
  go_wp2
  go_ret
  exact ⟨rfl, HG5.out⟩

end Go.Proofs.Ytdhfjaoaekdfbaa
