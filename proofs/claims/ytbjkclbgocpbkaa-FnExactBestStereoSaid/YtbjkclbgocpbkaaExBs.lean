/-
  The walk of 'FnExactBestStereo': it returns true and writes nothing that was there. For all arguments.
-/
import Derived.Test.YtbjkclbgocpbkaaBs3
import Derived.Deep.RegionHeld3
namespace Go.Proofs.Ytbjkclbgocpbkaa
open Go.RowKit

theorem bs_both (xs ys : List Int) (len len' : Nat) (hlen : len ≤ 1048576) (hlen' : len' ≤ 1048576) : ∃ z : Int, Hid (∀ (ao : Option Addr) (cap : Nat) (bo : Option Addr) (cap' : Nat) (w : World), Ints w ao len xs → len ≤ cap → (ao = none → cap = 0) → Ints w bo len' ys → len' ≤ cap' → (bo = none → cap' = 0) → Calls Try.prog 31 #[.slice ao len cap, .slice bo len' cap'] w fun e w' => e = .returned (.int .i64 z) ∧ w.grownBy w' none) ∧ Hid (∀ (ao : Option Addr) (cap : Nat) (bo : Option Addr) (cap' : Nat) (w : World), Ints w ao len xs → len ≤ cap → (ao = none → cap = 0) → Ints w bo len' ys → len' ≤ cap' → (bo = none → cap' = 0) → Calls Try.prog 30 #[.slice ao len cap, .slice bo len' cap'] w fun e w' => e = .returned (.int .i64 z) ∧ w.grownBy w' none) :=
  ⟨bsI xs ys, fun ao cap bo cap' w hx _ hn hy _ hn' => sBS_any xs ys ao bo len cap len' cap' w hx hy hn hn' (by omega) (by omega), fun ao cap bo cap' w hx _ _ hy _ _ => iBS_any xs ys ao bo len cap len' cap' w hx hy (by omega) (by omega)⟩

set_option maxRecDepth 100000 in
set_option maxHeartbeats 4000000 in
theorem FnExactBestStereo_walk (ao0 : Option Addr) (len0 cap0 : Nat) (ao1 : Option Addr) (len1 cap1 : Nat) (w : World) (xs0 : List Int) (hx0 : Ints w ao0 len0 xs0) (_hlc0 : len0 ≤ cap0) (hmax0 : len0 ≤ 9223372036854775807) (xs1 : List Int) (hx1 : Ints w ao1 len1 xs1) (_hlc1 : len1 ≤ cap1) (hmax1 : len1 ≤ 9223372036854775807) :
    Calls Try.prog 14 #[.slice ao0 len0 cap0, .slice ao1 len1 cap1] w (Holds w) := by
  by_cases hlen0 : 1048576 < len0
  · clear hx0 hx1
    go_enter Try.func14, Try.ntmps14
    go_wp2
    go_ret
    exact ⟨rfl, grown_refl _ _⟩
  have hlen0' : len0 ≤ 1048576 := by omega
  have hm0 : decide (1048576 < (len0 : Int)) = false := by simp; omega
  by_cases hlen1 : 1048576 < len1
  · clear hx0 hx1
    go_enter Try.func14, Try.ntmps14
    go_wp2
    go_ret
    exact ⟨rfl, grown_refl _ _⟩
  have hlen1' : len1 ≤ 1048576 := by omega
  have hm1 : decide (1048576 < (len1 : Int)) = false := by simp; omega
  obtain ⟨z, HS, HI⟩ := bs_both xs0 xs1 len0 len1 (by omega) (by omega)
  have HX0 := Lib.hid hx0
  have HX1 := Lib.hid hx1
  clear hx0 hmax0 hlen0 hx1 hmax1 hlen1
  go_enter Try.func14, Try.ntmps14
  have HM := Lib.hid (Mem.start w)
  go_wp2_with fail
  refine (toIntS_any xs0 ao0 len0 cap0 _ (HX0.out.grown HM.out.g) (by omega)).mono ?_
  rintro e w1 ⟨v1, rfl, ho1, hg1⟩
  obtain ⟨p1, c1, rfl, hlc1, hn1, hx1, _⟩ := ho1.reads
  have HN1 := Lib.hid hn1
  have HY1 := Lib.hid hx1
  have HM := Lib.hid (HM.out.grown hg1)
  clear ho1 hg1 hx1 hn1
  go_wp2_with fail
  refine (toIntS_any xs1 ao1 len1 cap1 _ (HX1.out.grown HM.out.g) (by omega)).mono ?_
  rintro e w2 ⟨v2, rfl, ho2, hg2⟩
  obtain ⟨p2, c2, rfl, hlc2, hn2, hx2, _⟩ := ho2.reads
  have HN2 := Lib.hid hn2
  have HY2 := Lib.hid hx2
  have HY1 := Lib.hid (HY1.out.grown hg2)
  have HM := Lib.hid (HM.out.grown hg2)
  clear ho2 hg2 hx2 hn2
  go_wp2_with fail
  refine (HS.out p1 c1 p2 c2 _ HY1.out hlc1 HN1.out HY2.out hlc2 HN2.out).mono ?_
  rintro e w3 ⟨rfl, hg3⟩
  have HM := Lib.hid (HM.out.grown hg3)
  have HY1 := Lib.hid (HY1.out.grown hg3)
  have HY2 := Lib.hid (HY2.out.grown hg3)
  clear hg3
  go_wp2_with fail
  refine (toIntS_any xs0 ao0 len0 cap0 _ (HX0.out.grown HM.out.g) (by omega)).mono ?_
  rintro e w4 ⟨v4, rfl, ho4, hg4⟩
  obtain ⟨L4, hs4, hm4⟩ := HM.out.own hg4 (Nat.le_refl _) ho4
  obtain ⟨p4, c4, rfl, hlc4, hn4, hx4, _⟩ := ho4.reads
  have HN4 := Lib.hid hn4
  have HY4 := Lib.hid hx4
  have HS4 := Lib.hid hs4
  have HM := Lib.hid hm4
  clear ho4 hg4 hs4 hm4 hx4 hn4
  go_wp2_with fail
  refine (toIntS_any xs1 ao1 len1 cap1 _ (HX1.out.grown HM.out.g) (by omega)).mono ?_
  rintro e w5 ⟨v5, rfl, ho5, hg5⟩
  obtain ⟨L5, hs5, hm5⟩ := HM.out.own hg5 (Nat.le_refl _) ho5
  obtain ⟨p5, c5, rfl, hlc5, hn5, hx5, _⟩ := ho5.reads
  have HN5 := Lib.hid hn5
  have HY5 := Lib.hid hx5
  have HY4 := Lib.hid (HY4.out.grown hg5)
  have HS5 := Lib.hid hs5
  have HM := Lib.hid hm5
  clear ho5 hg5 hs5 hm5 hx5 hn5
  go_wp2_with fail
  refine (HI.out p4 c4 p5 c5 _ HY4.out hlc4 HN4.out HY5.out hlc5 HN5.out).mono ?_
  rintro e w6 ⟨rfl, hg6⟩
  have HM := Lib.hid (HM.out.grown hg6)
  have HY4 := Lib.hid (HY4.out.grown hg6)
  have HY5 := Lib.hid (HY5.out.grown hg6)
  clear hg6
  go_wp2_with fail
  refine (toIntS_any xs0 ao0 len0 cap0 _ (HX0.out.grown HM.out.g) (by omega)).mono ?_
  rintro e w7 ⟨v7, rfl, ho7, hg7⟩
  obtain ⟨p7, c7, rfl, _, _, hx7, _⟩ := ho7.reads
  have HM := Lib.hid (HM.out.grown hg7)
  have HY7 := Lib.hid hx7
  clear ho7 hg7 hx7
  go_wp2_with fail
  refine (eqIntS_any xs0 xs0 p4 p7 len0 c4 len0 c7 true _ (HS4.out.toInts HM.out (by intro p hp; simp [hp])) HY7.out (by omega) (by simp)).mono ?_
  rintro e w8 ⟨rfl, hg8⟩
  have HM := Lib.hid (HM.out.grown hg8)
  clear hg8
  go_wp2_with fail
  refine (toIntS_any xs1 ao1 len1 cap1 _ (HX1.out.grown HM.out.g) (by omega)).mono ?_
  rintro e w9 ⟨v9, rfl, ho9, hg9⟩
  obtain ⟨p9, c9, rfl, _, _, hx9, _⟩ := ho9.reads
  have HM := Lib.hid (HM.out.grown hg9)
  have HY9 := Lib.hid hx9
  clear ho9 hg9 hx9
  go_wp2_with fail
  refine (eqIntS_any xs1 xs1 p5 p9 len1 c5 len1 c9 true _ (HS5.out.toInts HM.out (by intro p hp; simp [hp])) HY9.out (by omega) (by simp)).mono ?_
  rintro e w10 ⟨rfl, hg10⟩
  have HM := Lib.hid (HM.out.grown hg10)
  clear hg10
  go_wp2
  go_ret
  exact ⟨rfl, HM.out.g⟩

end Go.Proofs.Ytbjkclbgocpbkaa
